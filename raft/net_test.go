package raft_test

import (
	"bytes"
	"math/rand/v2"
	"slices"
	"testing"

	"towline/api"
	"towline/raft"
)

// entry is a row as a value, so that rows are held against one another.
type entry struct {
	term int
	data string
}

// asker is what was committed anywhere when a question was asked.
type asker struct{ id, committed int }

// net is three masters, what each has kept of what it was told to keep, and messages that are on their way.
type net struct {
	*testing.T
	*rand.Rand
	s         [3]*raft.State
	hard      [3]api.Hard
	rows      [3][]api.Row
	way       []api.Msg
	leaders   map[int]int // who led, by terms
	committed []entry
	asked     map[int]asker // by nonces
	nonce     int
	sure      int
	crashes   int
}

func newNet(t *testing.T, r *rand.Rand) *net {
	n := &net{T: t, Rand: r, leaders: map[int]int{}, asked: map[int]asker{}}
	for i := range n.s {
		n.hard[i].Vote = -1
		n.open(i)
	}
	return n
}

// open makes one anew of what was kept.
func (n *net) open(i int) {
	s, e := raft.New(i, n.hard[i], n.rows[i], n.IntN(8))
	if e != api.OK {
		n.Fatal(i, n.hard[i], e)
	}
	n.s[i] = s
}

// told keeps what one was told to keep, sends what it sends, and looks at all promises.
func (n *net) told(i int, o api.Out) {
	n.Helper()
	v := n.s[i].View()
	if o.Hard {
		n.hard[i] = v.Hard
	}
	if o.From > 0 {
		n.rows[i] = append(slices.Clip(n.rows[i][:o.From-1]), n.s[i].Rows(o.From, 999)...)
	}
	if n.hard[i] != v.Hard || !sameRows(n.rows[i], n.s[i].Rows(1, 999)) {
		n.Fatalf("P11.8: %d kept %v, %v, and is %+v, %v", i, n.hard[i], n.rows[i], v, n.s[i].Rows(1, 999))
	}
	for _, m := range o.Send {
		if m.From != i || m.Term != v.Hard.Term {
			n.Fatal(m, v)
		}
		n.way = append(n.way, m)
	}
	n.leads(v)
	n.commits(i, v)
	for _, x := range o.Sure {
		a, ok := n.asked[x.Nonce]
		if !ok || a.id != i || x.Index < a.committed {
			n.Fatalf("P11.7: %+v of %d, of what was %+v, %v", x, i, a, ok)
		}
		delete(n.asked, x.Nonce)
		n.sure++
	}
}

// leads is P11.5: one leader in a term; and it has all that was committed.
func (n *net) leads(v api.View) {
	n.Helper()
	if v.Role != api.Leads {
		return
	}
	if was, ok := n.leaders[v.Hard.Term]; ok && was != v.ID {
		n.Fatalf("P11.5: %d and %d lead in %d", was, v.ID, v.Hard.Term)
	}
	n.leaders[v.Hard.Term] = v.ID
}

// commits is P11.6: one order, of which nothing is ever gone.
func (n *net) commits(i int, v api.View) {
	n.Helper()
	for k, r := range n.s[i].Rows(1, v.Commit) {
		x := entry{r.Term, string(r.Data)}
		if k == len(n.committed) {
			n.committed = append(n.committed, x)
		}
		if n.committed[k] != x {
			n.Fatalf("P11.6: %d committed %v at %d, not %v", i, x, k+1, n.committed[k])
		}
	}
	for k, x := range n.committed {
		have := 0
		for j := range n.rows {
			if k < len(n.rows[j]) && n.rows[j][k].Term == x.term && string(n.rows[j][k].Data) == x.data {
				have++
			}
		}
		if have < 2 {
			n.Fatalf("P11.6: %v at %d is gone", x, k+1)
		}
	}
}

// ask asks one a question that nobody asked before.
func (n *net) ask(i int) {
	n.Helper()
	n.nonce++
	o := n.s[i].Ask(n.nonce)
	if o.Err == api.OK {
		n.asked[n.nonce] = asker{i, len(n.committed)}
	}
	n.told(i, o)
}

// step is one thing that happens.
func (n *net) step(calm int) {
	i := n.IntN(3)
	switch k := n.IntN(100); {
	case k < 12:
		n.told(i, n.s[i].Tick(n.IntN(8)))
	case k < 20:
		n.told(i, n.s[i].Propose([]byte{byte(n.IntN(256)), byte(n.IntN(256))}))
	case k < 28:
		n.ask(i)
	case k < 28+calm%3:
		n.crashes++
		n.open(i)
	case len(n.way) > 0:
		at := 0
		if n.IntN(3) == 0 {
			at = n.IntN(len(n.way))
		}
		m := n.way[at]
		// Now and then it is doubled, or lost.
		if n.IntN(8) > 0 {
			n.way = slices.Delete(n.way, at, at+1)
		}
		if n.IntN(10) >= calm {
			n.told(m.To, n.s[m.To].Take(m))
		}
	}
	if len(n.way) > 60 {
		n.way = slices.Delete(n.way, 0, 20)
	}
}

// freshest is one whose rows are as fresh as any.
func (n *net) freshest() int {
	best := n.IntN(3)
	for i := range n.s {
		a, b := n.s[best].View(), n.s[i].View()
		x, y := n.s[best].Rows(a.Len, 1), n.s[i].Rows(b.Len, 1)
		if len(y) > 0 && (len(x) == 0 || y[0].Term > x[0].Term || y[0].Term == x[0].Term && b.Len > a.Len) {
			best = i
		}
	}
	return best
}

// calm is P11.9: nothing is lost, and time passes for one whose rows are as fresh as any; it leads, and is heard.
func (n *net) calm() {
	n.Helper()
	n.deliver()
	i := n.freshest()
	for range 40 {
		n.told(i, n.s[i].Tick(0))
		n.deliver()
		if v := n.s[i].View(); v.Role == api.Leads && v.Commit == v.Len {
			n.ask(i)
			n.deliver()
			n.level(i)
			return
		}
	}
	n.Fatal("P11.9: nobody leads in the end", n.s[0].View(), n.s[1].View(), n.s[2].View())
}

// deliver lets all messages come, in order.
func (n *net) deliver() {
	n.Helper()
	for many := 0; len(n.way) > 0; many++ {
		m := n.way[0]
		n.way = n.way[1:]
		n.told(m.To, n.s[m.To].Take(m))
		if many > 5000 {
			n.Fatal("messages without end")
		}
	}
}

// level checks that all have, and committed, what the leader has.
func (n *net) level(lead int) {
	n.Helper()
	v := n.s[lead].View()
	if _, waits := n.asked[n.nonce]; waits {
		n.Fatal("a question was not answered", n.asked)
	}
	for i := range n.s {
		w := n.s[i].View()
		if w.Commit != v.Len || w.Len != v.Len || w.Lead != lead || !sameRows(n.rows[i], n.rows[lead]) {
			n.Fatal(v, w)
		}
	}
}

// P11.5 to P11.9: whatever is lost, late, doubled, and whoever crashes.
func TestNets(t *testing.T) {
	r := rand.New(rand.NewPCG(115, 1))
	sure, committed, leaders, crashes, calm := 0, 0, 0, 0, 0
	for k := range 300 {
		n := newNet(t, r)
		for range 1000 {
			n.step(k % 8)
		}
		if n.s[0].View().Len < 150 && n.s[1].View().Len < 150 && n.s[2].View().Len < 150 {
			n.calm()
			calm++
		}
		sure, committed, leaders, crashes = sure+n.sure, committed+len(n.committed), leaders+len(n.leaders), crashes+n.crashes
	}
	if sure < 1000 || committed < 2000 || leaders < 500 || crashes < 1000 || calm < 200 {
		t.Error(sure, committed, leaders, crashes, calm)
	}
}

// P11.9: from the beginning, whoever it is for whom time passes.
func TestCalmFromTheBeginning(t *testing.T) {
	for i := range 3 {
		n := newNet(t, rand.New(rand.NewPCG(116, uint64(i))))
		for range 12 {
			n.told(i, n.s[i].Tick(0))
			n.deliver()
		}
		for k := range 9 {
			n.told(i, n.s[i].Propose(bytes.Repeat([]byte{byte(k)}, 64)))
		}
		n.deliver()
		n.told(i, n.s[i].Tick(0))
		n.deliver()
		n.level(i)
		if v := n.s[i].View(); v.Commit != 10 || v.Hard.Term != 1 {
			t.Error(v)
		}
	}
}

// P11.4, P11.9: one that has nothing is fed all of two hundred rows, four by four.
func TestCatchesUp(t *testing.T) {
	n := newNet(t, rand.New(rand.NewPCG(117, 1)))
	n.hard[0], n.rows[0] = api.Hard{Term: 3, Vote: -1}, many(190, 3)
	n.hard[1], n.rows[1] = n.hard[0], many(190, 3)
	n.hard[2], n.rows[2] = api.Hard{Term: 2, Vote: -1}, rowsOf(1, 1, 2, 2, 2, 2)
	for i := range n.s {
		n.open(i)
	}
	for range 12 {
		n.told(0, n.s[0].Tick(0))
		n.deliver()
	}
	for n.s[0].View().Len < 200 {
		n.told(0, n.s[0].Propose([]byte("x")))
		n.deliver()
	}
	n.told(0, n.s[0].Tick(0))
	n.deliver()
	n.level(0)
}
