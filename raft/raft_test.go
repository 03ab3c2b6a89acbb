package raft_test

import (
	"math"
	"slices"
	"strings"
	"testing"

	"towline/api"
	"towline/raft"
)

// rowsOf is rows of these terms, each with data of its own.
func rowsOf(terms ...int) []api.Row {
	var out []api.Row
	for i, n := range terms {
		out = append(out, api.Row{Term: n, Data: []byte{byte(i), byte(n)}})
	}
	return out
}

// many is so many rows of one term.
func many(n, term int) []api.Row { return rowsOf(slices.Repeat([]int{term}, n)...) }

// leader is one that leads in the term behind h's, by the vote of another one.
func leader(t *testing.T, id int, term int, rows []api.Row) *pair {
	t.Helper()
	x := pairOf(t, id, api.Hard{Term: term, Vote: -1}, rows, 0)
	for range 4 {
		x.tick(0)
	}
	x.take(api.Msg{Kind: api.MGrant, From: (id + 1) % 3, To: id, Term: term + 1, Yes: true})
	if v := x.s.View(); v.Role != api.Leads || v.Lead != id || v.Hard != (api.Hard{Term: term + 1, Vote: id}) {
		t.Fatal(v)
	}
	return x
}

// fed is another one's answer to a leader.
func (x *pair) fed(from, index, round int, yes bool) api.Out {
	x.Helper()
	v := x.s.View()
	return x.take(api.Msg{Kind: api.MFed, From: from, To: v.ID, Term: v.Hard.Term, Index: index, Round: round, Yes: yes})
}

// P11.2 to P11.4: the chapter's example, message by message.
func TestExample(t *testing.T) {
	var s [3]*pair
	for i := range s {
		s[i] = pairOf(t, i, api.Hard{Vote: -1}, nil, 0)
	}
	for range 3 {
		if o := s[0].tick(0); o.Hard || o.Send != nil {
			t.Fatal(o)
		}
	}
	o := s[0].tick(0)
	if !o.Hard || o.From != 0 || len(o.Send) != 2 || o.Send[0].To != 1 || o.Send[1].To != 2 || o.Send[0].Kind != api.MVote || o.Send[0].Term != 1 {
		t.Fatal(o)
	}
	g := s[1].take(o.Send[0])
	if !g.Hard || len(g.Send) != 1 || g.Send[0].Kind != api.MGrant || !g.Send[0].Yes || s[1].s.View().Hard != (api.Hard{Term: 1, Vote: 0}) {
		t.Fatal(g)
	}
	l := s[0].take(g.Send[0])
	if l.Hard || l.From != 1 || len(l.Send) != 2 || l.Send[0].Kind != api.MFeed || len(l.Send[0].Rows) != 1 || len(l.Send[0].Rows[0].Data) != 0 {
		t.Fatal(l)
	}
	f := s[1].take(l.Send[0])
	if f.From != 1 || len(f.Send) != 1 || f.Send[0].Kind != api.MFed || !f.Send[0].Yes || f.Send[0].Index != 1 || s[1].s.View().Lead != 0 {
		t.Fatal(f)
	}
	if o := s[0].ask(7); o.Err != api.ErrWait {
		t.Fatal(o)
	}
	s[0].take(f.Send[0])
	if s[0].s.View().Commit != 1 {
		t.Fatal(s[0].s.View())
	}
	a := s[0].ask(7)
	h := s[2].take(a.Send[1])
	if z := s[0].take(h.Send[0]); !slices.Equal(z.Sure, []api.Sure{{Nonce: 7, Index: 1}}) {
		t.Fatal(z)
	}
}

// P11.1: states that may be, and that can't be.
func TestNew(t *testing.T) {
	long := []api.Row{{Term: 1, Data: make([]byte, 65)}}
	for _, k := range []struct {
		id      int
		h       api.Hard
		rows    []api.Row
		timeout int
		errno   api.Errno
	}{
		{0, api.Hard{Vote: -1}, nil, 0, api.OK},
		{2, api.Hard{Term: 1 << 40, Vote: 2}, many(200, 1<<40), 7, api.OK},
		{1, api.Hard{Term: 3, Vote: 0}, rowsOf(1, 1, 2, 3), 3, api.OK},
		{1, api.Hard{Term: 3, Vote: 1}, []api.Row{{Term: 1}, {Term: 2, Data: make([]byte, 64)}}, 3, api.OK},
		{-1, api.Hard{Vote: -1}, nil, 0, api.ErrTerm},
		{3, api.Hard{Vote: -1}, nil, 0, api.ErrTerm},
		{math.MinInt, api.Hard{Vote: -1}, nil, 0, api.ErrTerm},
		{0, api.Hard{Term: -1, Vote: -1}, nil, 0, api.ErrTerm},
		{0, api.Hard{Term: 1<<40 + 1, Vote: -1}, nil, 0, api.ErrTerm},
		{0, api.Hard{Vote: -2}, nil, 0, api.ErrTerm},
		{0, api.Hard{Vote: 3}, nil, 0, api.ErrTerm},
		{0, api.Hard{Term: 1, Vote: -1}, many(201, 1), 0, api.ErrTerm},
		{0, api.Hard{Term: 1, Vote: -1}, many(5000, 1), 0, api.ErrTerm},
		{0, api.Hard{Term: 3, Vote: -1}, rowsOf(0), 0, api.ErrTerm},
		{0, api.Hard{Term: 3, Vote: -1}, rowsOf(-1, 2), 0, api.ErrTerm},
		{0, api.Hard{Term: 3, Vote: -1}, rowsOf(1, 2, 1), 0, api.ErrTerm},
		{0, api.Hard{Term: 3, Vote: -1}, rowsOf(1, 4), 0, api.ErrTerm},
		{0, api.Hard{Term: 0, Vote: -1}, rowsOf(1), 0, api.ErrTerm},
		{0, api.Hard{Term: 3, Vote: -1}, long, 0, api.ErrTerm},
		{0, api.Hard{Vote: -1}, nil, -1, api.ErrTerm},
		{0, api.Hard{Vote: -1}, nil, 8, api.ErrTerm},
	} {
		s, e := raft.New(k.id, k.h, k.rows, k.timeout)
		if e != k.errno || (s == nil) != (e != api.OK) {
			t.Errorf("%d, %v, %d rows, %d: %v, %d", k.id, k.h, len(k.rows), k.timeout, s, e)
		}
		if e == api.OK {
			pairOf(t, k.id, k.h, k.rows, k.timeout)
			if v := s.View(); v != (api.View{ID: k.id, Lead: -1, Hard: k.h, Len: len(k.rows)}) {
				t.Error(v)
			}
		}
	}
}

// P11.1: rows from an index on, and none where there is none.
func TestRows(t *testing.T) {
	all := rowsOf(1, 1, 2, 3, 3)
	s, _ := raft.New(0, api.Hard{Term: 3, Vote: -1}, all, 0)
	for _, from := range []int{math.MinInt, -1, 0, 1, 2, 5, 6, 7, math.MaxInt} {
		for _, most := range []int{math.MinInt, -1, 0, 1, 2, 4, 5, 6, math.MaxInt} {
			var want []api.Row
			for i := 1; i <= 5; i++ {
				if from >= 1 && i >= from && len(want) < most {
					want = append(want, all[i-1])
				}
			}
			if got := s.Rows(from, most); !sameRows(got, want) {
				t.Errorf("%d, %d: %v, not %v", from, most, got, want)
			}
		}
	}
}

// P11.2: how long it waits until it stands, by each timeout, and by another one from then on.
func TestTimeouts(t *testing.T) {
	for timeout := range 8 {
		x := pairOf(t, 1, api.Hard{Term: 5, Vote: -1}, rowsOf(2, 4), timeout)
		then := 7 - timeout
		for range 3 + timeout {
			if o := x.tick(then); o.Send != nil || o.Hard {
				t.Fatal(timeout, o)
			}
		}
		o := x.tick(then)
		if len(o.Send) != 2 || o.Send[0].To != 0 || o.Send[1].To != 2 || o.Send[0].Index != 2 || o.Send[0].Last != 4 || o.Send[0].Term != 6 {
			t.Fatal(timeout, o)
		}
		for range 3 + then {
			if o := x.tick(0); o.Send != nil {
				t.Fatal(timeout, o)
			}
		}
		if o := x.tick(0); len(o.Send) != 2 || o.Send[0].Term != 7 || x.s.View().Role != api.Stands || x.s.View().Lead != -1 {
			t.Fatal(timeout, o)
		}
	}
}

// P11.2: wrong timeouts change nothing, whatever it is; behind the last term nobody stands.
func TestTickErrors(t *testing.T) {
	x := pairOf(t, 0, api.Hard{Vote: -1}, nil, 0)
	for range 3 {
		x.tick(0)
		for _, n := range []int{-1, 8, math.MinInt, math.MaxInt} {
			if o := x.tick(n); o.Err != api.ErrArg {
				t.Fatal(n, o)
			}
		}
	}
	if o := x.tick(7); len(o.Send) != 2 {
		t.Fatal(o)
	}
	y := leader(t, 0, 0, nil)
	if o := y.tick(8); o.Err != api.ErrArg || o.Send != nil {
		t.Fatal(o)
	}
	z := pairOf(t, 2, api.Hard{Term: 1 << 40, Vote: -1}, nil, 0)
	for range 20 {
		if o := z.tick(0); o.Hard || o.Send != nil {
			t.Fatal(o)
		}
	}
	last := pairOf(t, 2, api.Hard{Term: 1<<40 - 1, Vote: -1}, nil, 0)
	for range 4 {
		last.tick(0)
	}
	if v := last.s.View(); v.Role != api.Stands || v.Hard.Term != 1<<40 {
		t.Fatal(v)
	}
	for range 20 {
		last.tick(0)
	}
}

// P11.2, P11.3: one that leads feeds all others, at most four rows each, from the next one on.
func TestFeeds(t *testing.T) {
	x := leader(t, 1, 3, rowsOf(1, 1, 2, 2, 3, 3, 3))
	o := x.tick(0)
	if len(o.Send) != 2 || o.Send[0].To != 0 || o.Send[1].To != 2 {
		t.Fatal(o)
	}
	for _, m := range o.Send {
		if m.Prev != 7 || m.Last != 3 || len(m.Rows) != 1 || m.Rows[0].Term != 4 || len(m.Rows[0].Data) != 0 || m.Commit != 0 || m.Round != 0 {
			t.Fatal(m)
		}
	}
	o = x.fed(0, 2, 0, false)
	if len(o.Send) != 1 || o.Send[0].To != 0 || o.Send[0].Prev != 2 || o.Send[0].Last != 1 || len(o.Send[0].Rows) != 4 || o.Send[0].Rows[3].Term != 3 {
		t.Fatal(o)
	}
	o = x.fed(0, 6, 0, true)
	if len(o.Send) != 1 || o.Send[0].Prev != 6 || len(o.Send[0].Rows) != 2 {
		t.Fatal(o)
	}
	if v := x.s.View(); v.Commit != 0 {
		t.Fatal("rows of elder terms are committed under one of its own alone", v)
	}
	if o = x.fed(0, 8, 0, true); o.Send != nil || x.s.View().Commit != 8 {
		t.Fatal(o, x.s.View())
	}
	o = x.propose([]byte("x"))
	if o.From != 9 || len(o.Send) != 2 || o.Send[0].Prev != 8 || o.Send[0].Commit != 8 || o.Send[1].Prev != 7 || len(o.Send[1].Rows) != 2 {
		t.Fatal(o)
	}
}

// P11.3: who proposes, and what; the first error.
func TestPropose(t *testing.T) {
	wrong := [][]byte{nil, {}, make([]byte, 65), make([]byte, 1<<16)}
	f := pairOf(t, 0, api.Hard{Vote: -1}, nil, 0)
	for _, d := range append(wrong, []byte("x")) {
		if o := f.propose(d); o.Err != api.ErrWait {
			t.Fatal(o)
		}
	}
	for range 4 {
		f.tick(0)
	}
	if o := f.propose([]byte("x")); o.Err != api.ErrWait {
		t.Fatal("it only stands", o)
	}
	x := leader(t, 0, 1, many(197, 1))
	for i, d := range [][]byte{{0}, make([]byte, 64)} {
		if o := x.propose(d); o.Err != api.OK || o.From != 199+i || o.Hard {
			t.Fatal(o)
		}
		for _, w := range wrong {
			if o := x.propose(w); o.Err != api.ErrLong {
				t.Fatal(o)
			}
		}
	}
	if o := x.propose([]byte("x")); o.Err != api.ErrFull || x.s.View().Len != 200 {
		t.Fatal(o)
	}
	full := leader(t, 0, 1, many(200, 1))
	if o := full.tick(0); len(o.Send) != 2 || o.Send[0].Prev != 200 || o.Send[0].Rows != nil {
		t.Fatal(o)
	}
	if full.fed(1, 200, 0, true); full.s.View().Commit != 0 {
		t.Fatal("no row of its own term is there")
	}
	almost := leader(t, 0, 1, many(199, 1))
	if v := almost.s.View(); v.Len != 200 {
		t.Fatal(v)
	}
}

// P11.3, P11.4: questions wait until most are in their round, and are answered in order.
func TestAsk(t *testing.T) {
	x := leader(t, 2, 6, rowsOf(6))
	if o := x.ask(1); o.Err != api.ErrWait {
		t.Fatal("nothing is committed", o)
	}
	x.fed(0, 2, 0, true)
	for i := range 12 {
		o := x.ask(math.MaxInt - i)
		if o.Err != api.OK || len(o.Send) != 2 || o.Send[0].Round != i+1 || o.Send[1].Round != i+1 || o.Sure != nil || o.Hard || o.From != 0 {
			t.Fatal(o)
		}
	}
	if o := x.ask(5); o.Err != api.ErrFull || o.Send != nil {
		t.Fatal(o)
	}
	if o := x.fed(1, 0, 2, false); !slices.Equal(o.Sure, []api.Sure{{Nonce: math.MaxInt, Index: 2}, {Nonce: math.MaxInt - 1, Index: 2}}) {
		t.Fatal("a no counts for the round", o)
	}
	if o := x.fed(0, 2, 1, true); o.Sure != nil {
		t.Fatal(o)
	}
	x.propose([]byte("y"))
	x.fed(0, 3, 2, true)
	if o := x.ask(-7); o.Err != api.OK {
		t.Fatal(o)
	}
	o := x.fed(0, 3, 1<<40, true)
	if len(o.Sure) != 11 || o.Sure[10] != (api.Sure{Nonce: -7, Index: 3}) || o.Sure[0].Nonce != math.MaxInt-2 || o.Sure[0].Index != 2 {
		t.Fatal(o)
	}
	if x.ask(8); len(x.fed(1, 3, 13, true).Sure) != 0 {
		t.Fatal("a round is not beyond the leader's own, whatever was said")
	}
	if o := x.fed(1, 3, 14, true); !slices.Equal(o.Sure, []api.Sure{{Nonce: 8, Index: 3}}) {
		t.Fatal(o)
	}
}

// P11.4: a leader that falls forgets its questions; who follows, or stands, can't be asked.
func TestAskAndFall(t *testing.T) {
	x := leader(t, 0, 0, nil)
	x.fed(1, 1, 0, true)
	x.ask(3)
	x.take(api.Msg{Kind: api.MGrant, From: 1, To: 0, Term: 9})
	if o := x.ask(4); o.Err != api.ErrWait {
		t.Fatal(o)
	}
	for range 4 {
		x.tick(0)
	}
	if o := x.ask(4); o.Err != api.ErrWait || x.s.View().Role != api.Stands {
		t.Fatal(o)
	}
	x.take(api.Msg{Kind: api.MGrant, From: 2, To: 0, Term: 10, Yes: true})
	if o := x.ask(4); o.Err != api.ErrWait {
		t.Fatal("its commit is of an elder term", o)
	}
	if o := x.fed(1, 2, 99, true); o.Sure != nil || x.s.View().Commit != 2 {
		t.Fatal(o)
	}
	if o := x.ask(4); o.Err != api.OK || o.Send[0].Round != 1 {
		t.Fatal("rounds begin anew", o)
	}
	if o := x.fed(2, 2, 1, true); !slices.Equal(o.Sure, []api.Sure{{Nonce: 4, Index: 2}}) {
		t.Fatal(o)
	}
}

// Of a state that New did not make, and of nil.
func TestObjects(t *testing.T) {
	for _, s := range []*raft.State{nil, {}} {
		if s.View() != (api.View{}) || s.Rows(1, 9) != nil {
			t.Error(s.View(), s.Rows(1, 9))
		}
		for name, o := range map[string]api.Out{
			"Tick": s.Tick(0), "Tick, wrong": s.Tick(-1), "Propose": s.Propose([]byte("x")), "Propose, wrong": s.Propose(nil), "Ask": s.Ask(1),
			"Take": s.Take(api.Msg{Kind: api.MGrant, From: 1, Term: 1}), "Take, wrong": s.Take(api.Msg{}),
		} {
			if !sameOut(o, api.Out{Err: api.ErrNil}) {
				t.Error(name, o)
			}
		}
		if s.View() != (api.View{}) {
			t.Error(s.View())
		}
	}
}

// scribble writes over rows that were told, and the room behind them.
func scribble(l []api.Row) {
	l = l[:cap(l)]
	for i := range l {
		d := l[i].Data[:cap(l[i].Data)]
		for j := range d {
			d[j] = '#'
		}
		l[i] = api.Row{Term: -9, Data: []byte("#")}
	}
}

// The rule Memory: rows and data that are handed in are neither kept nor changed, what is told is nobody else's.
func TestMemory(t *testing.T) {
	in := rowsOf(1, 1, 2)
	x := leader(t, 0, 2, in[:2])
	scribble(in)
	x.tick(0)
	data := []byte("abcdef")
	o := x.propose(data[:3])
	if string(data) != "abcdef" {
		t.Error(data)
	}
	copy(data, "######")
	scribble(o.Send[0].Rows)
	if m := o.Send[1]; len(m.Rows) != 2 || string(m.Rows[1].Data) != "abc" {
		t.Error("two messages share", m)
	}
	scribble(x.s.Rows(1, 2))
	scribble(x.s.Rows(2, 9))
	x.fed(1, 0, 0, false)
	m := x.tick(0).Send[0]
	if len(m.Rows) != 4 {
		t.Fatal(m)
	}
	f := pairOf(t, 1, api.Hard{Vote: -1}, nil, 0)
	room := append(copyRows(m.Rows), api.Row{Term: 3, Data: []byte("z")})
	m.Rows = room[:4]
	f.take(m)
	if room[4].Term != 3 || string(room[4].Data) != "z" || !sameRows(room[:4], f.p.rows) {
		t.Error(room)
	}
	scribble(room)
	f.tick(0)
	o = x.tick(0)
	o.Send[0] = api.Msg{}
	_ = append(o.Send[:1], api.Msg{})
	x.tick(0)
}

// Two states know nothing of one another, and the same calls tell the same.
func TestAlike(t *testing.T) {
	play := func() string {
		x := leader(t, 0, 0, nil)
		var b strings.Builder
		for i := range 5 {
			o := x.propose([]byte{byte(i)})
			for _, m := range o.Send {
				b.WriteString(strings.Repeat("r", len(m.Rows)) + ";")
			}
		}
		return b.String()
	}
	if a, b := play(), play(); a != b || a == "" {
		t.Error(a, b)
	}
}
