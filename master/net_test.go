package master_test

import (
	"fmt"
	"math/rand/v2"
	"slices"
	"testing"

	"towline/api"
	"towline/layout"
)

// asked is a question as its master knows it.
type asked struct{ master, from, epoch, nonce int }

// net is three masters on disks, and messages on their way.
type net struct {
	*testing.T
	*rand.Rand
	first  []api.Member
	m      [3]*pair
	kept   [3]hold // what each has said by
	way    []api.Msg
	chains map[int]string // what was told, by epochs
	told   int            // the greatest epoch that was
	asked  map[asked]int  // what was told ahead of each question that waits
	nonce  int
	counts map[string]int
}

func newNet(t *testing.T, r *rand.Rand, counts map[string]int) *net {
	t.Helper()
	n := &net{T: t, Rand: r, chains: map[int]string{}, asked: map[asked]int{}, counts: counts}
	for _, i := range r.Perm(6)[:1+r.IntN(5)] {
		n.first = append(n.first, api.Member{Node: i, Site: i / 2})
	}
	for i := range n.m {
		n.m[i] = open(t, i, newDisk(t, 1<<18), n.first, r.IntN(8))
		n.kept[i] = holdOf(n.m[i].m)
	}
	return n
}

// open opens a master on its disk, which must have one of these: P20.4.
func (n *net) open(i int, may []string) {
	n.Helper()
	n.m[i] = open(n.T, i, n.m[i].d, n.first, n.IntN(8))
	n.kept[i] = holdOf(n.m[i].m)
	if got := n.kept[i].String(); !slices.Contains(may, got) {
		n.Fatalf("P20.4: %d has %s, not one of %q", i, got, may)
	}
	for q := range n.asked {
		if q.master == i {
			delete(n.asked, q)
		}
	}
	n.counts["opened"]++
}

// crash takes a master's power between two steps.
func (n *net) crash(i int) {
	n.Helper()
	n.m[i].d.Crash(n.IntN(60)-5, n.IntN(60)-5)
	n.m[i].d.Start()
	n.open(i, []string{n.kept[i].String()})
}

// does lets a master do something, in which its power may go. It is the error.
func (n *net) does(i int, do func() ([]api.Msg, api.Errno)) api.Errno {
	n.Helper()
	l, e := do()
	n.counts[fmt.Sprint("error ", int(e))]++
	if e == api.ErrDown {
		silent(n.T, n.m[i].m)
		n.m[i].d.Start()
		n.open(i, n.lay(i))
		return e
	}
	n.kept[i] = holdOf(n.m[i].m)
	for _, m := range l {
		if m.Kind == api.MChain {
			n.hears(i, m)
		} else {
			n.way = append(n.way, m)
		}
	}
	return e
}

// lay is all that may lie on a disk whose power went in a step: none, some first notes, or all of them.
func (n *net) lay(i int) []string {
	h, out := n.kept[i], []string{n.kept[i].String()}
	for _, b := range n.m[i].p.notes {
		h = follow(h, b)
		out = append(out, h.String())
	}
	return out
}

// follow does a note, read by the chapter's words.
func follow(h hold, b []byte) hold {
	next := func() int {
		u := 0
		for i, c := range b {
			u += int(c%128) << (7 * i)
			if c < 128 {
				b = b[i+1:]
				break
			}
		}
		if u%2 == 1 {
			return -(u + 1) / 2
		}
		return u / 2
	}
	if next() == 1 {
		h.hard = api.Hard{Term: next(), Vote: next()}
		return h
	}
	index, term := next(), next()
	h.rows = append(slices.Clone(h.rows[:index-1]), api.Row{Term: term, Data: b[1:]})
	return h
}

// hears is P20.5, that one chain is told of one epoch, and P20.6, that an answer is not of an elder one than was told ahead of the question.
func (n *net) hears(i int, m api.Msg) {
	n.Helper()
	var s string
	for _, x := range m.Chain.Members {
		s += fmt.Sprintf(" %d@%d", x.Node, x.Site)
	}
	if was, ok := n.chains[m.Chain.Epoch]; ok && was != s {
		n.Fatalf("P20.5: of epoch %d are told %s and %s", m.Chain.Epoch, was, s)
	}
	n.chains[m.Chain.Epoch] = s
	n.told = max(n.told, m.Chain.Epoch)
	if m.Nonce == 0 {
		n.counts["told"]++
		return
	}
	q := asked{i, m.To, m.Epoch, m.Nonce}
	least, ok := n.asked[q]
	if !ok || m.Chain.Epoch < least {
		n.Fatalf("P20.6: %+v is answered by epoch %d, %d was told ahead of it, %v", q, m.Chain.Epoch, least, ok)
	}
	delete(n.asked, q)
	n.counts["sure"]++
}

// ask asks a master a question; some were asked before.
func (n *net) ask(i int) {
	n.Helper()
	if n.IntN(4) > 0 {
		n.nonce++
	}
	q := asked{i, n.IntN(6), n.told, max(1, n.nonce)}
	was := n.told
	if n.does(i, func() ([]api.Msg, api.Errno) { return n.m[i].asks(q.from, q.epoch, q.nonce) }) == api.OK {
		n.asked[q] = was
	}
}

// order tells a master something.
func (n *net) order(i int) {
	n.Helper()
	node := n.IntN(6)
	c := api.Command{Kind: 1 + n.IntN(5), Node: node, Epoch: max(1, n.told-n.IntN(8)/7)}
	switch c.Kind {
	case api.CJoin:
		c.Site = node / 2
	case api.CSite:
		c.Node, c.Site = 0, n.IntN(3)
	}
	if c.Kind == api.CSite && n.IntN(4) > 0 {
		return
	}
	n.does(i, func() ([]api.Msg, api.Errno) { return n.m[i].tells(c) })
}

// come brings a message to where it goes.
func (n *net) come(m api.Msg) {
	n.Helper()
	n.does(m.To-6, func() ([]api.Msg, api.Errno) { return n.m[m.To-6].take(m) })
}

// step is one thing that happens.
func (n *net) step() {
	n.Helper()
	i := n.IntN(3)
	switch k := n.IntN(100); {
	case k < 14:
		n.does(i, func() ([]api.Msg, api.Errno) { return n.m[i].tick(n.IntN(8)) })
	case k < 20:
		n.order(i)
	case k < 28:
		n.ask(i)
	case k < 29:
		n.crash(i)
	case k < 31:
		n.m[i].arm(1+n.IntN(60), n.IntN(60)-5, n.IntN(60)-5)
	case len(n.way) > 0:
		at := n.IntN(min(3, len(n.way)))
		m := n.way[at]
		if n.IntN(8) > 0 {
			n.way = slices.Delete(n.way, at, at+1)
		}
		if n.IntN(12) > 0 {
			n.come(m)
		}
	}
	if len(n.way) > 60 {
		n.way = slices.Delete(n.way, 0, 20)
	}
}

// deliver lets all messages come.
func (n *net) deliver() {
	n.Helper()
	for many := 0; len(n.way) > 0; many++ {
		m := n.way[0]
		n.way = n.way[1:]
		n.come(m)
		if many > 5000 {
			n.Fatal("messages without end")
		}
	}
}

// freshest is a master whose rows are as fresh as any.
func (n *net) freshest() int {
	best := 0
	age := func(i int) (int, int) {
		rows := n.m[i].m.Rows()
		if len(rows) == 0 {
			return 0, 0
		}
		return rows[len(rows)-1].Term, len(rows)
	}
	for i := range n.m {
		term, size := age(i)
		if t, s := age(best); term > t || term == t && size > s {
			best = i
		}
	}
	return best
}

// calm is that no power goes, nothing is lost, and time passes for one whose rows are as fresh as any: it leads, all know of one chain, and it is sure of it.
func (n *net) calm() {
	n.Helper()
	for i := range n.m {
		n.crash(i)
	}
	n.deliver()
	i := n.freshest()
	for range 30 {
		n.does(i, func() ([]api.Msg, api.Errno) { return n.m[i].tick(0) })
		n.deliver()
	}
	c := n.m[i].m.Chain()
	if n.m[i].m.View().Role != api.Leads || c.Epoch != n.told {
		n.Fatalf("%+v, %v; told %d", n.m[i].m.View(), c, n.told)
	}
	for _, x := range n.m {
		if !layout.Same(x.m.Chain(), c) || fmt.Sprint(x.m.Rows()) != fmt.Sprint(n.m[i].m.Rows()) {
			n.Fatalf("%d: %v, not %v", x.id, x.m.Chain(), c)
		}
	}
	was := n.counts["sure"]
	n.ask(i)
	n.deliver()
	if n.counts["sure"] == was {
		n.Fatal("a question is not answered")
	}
}

// P20.4 to P20.6: whatever is lost, late, doubled, and wherever the power goes.
func TestNets(t *testing.T) {
	counts := map[string]int{}
	for seed := range uint64(40) {
		n := newNet(t, rand.New(rand.NewPCG(seed, 20)), counts)
		for range 2 {
			for range 500 {
				n.step()
			}
			n.calm()
		}
		counts["epochs"] += n.told
	}
	for name, least := range map[string]int{
		"error 0": 5000, "error 50": 100, "error 81": 50, "error 82": 20, "error 150": 50, "error 151": 300, "opened": 300, "told": 2000, "sure": 500, "epochs": 120,
	} {
		if counts[name] < least {
			t.Errorf("%s: %d", name, counts[name])
		}
	}
}
