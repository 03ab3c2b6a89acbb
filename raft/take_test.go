package raft_test

import (
	"math"
	"slices"
	"testing"

	"towline/api"
)

// edges is numbers about each limit that messages have.
var edges = []int{math.MinInt, -1, 0, 1, 2, 3, 4, 5, 196, 197, 199, 200, 201, 1<<40 - 1, 1 << 40, 1<<40 + 1, math.MaxInt}

// odd is a message with one field, by its number, set to n.
func odd(m api.Msg, field, n int) api.Msg {
	*[]*int{&m.Kind, &m.From, &m.To, &m.Term, &m.Index, &m.Prev, &m.Last, &m.Commit, &m.Round}[field] = n
	return m
}

const fields = 9

// some is a message of each kind that may be, to 0 from 1.
func some() []api.Msg {
	return []api.Msg{
		{Kind: api.MVote, From: 1, Term: 4, Index: 2, Last: 3},
		{Kind: api.MVote, From: 1, Term: 4},
		{Kind: api.MGrant, From: 1, Term: 4, Yes: true},
		{Kind: api.MFeed, From: 1, Term: 4, Prev: 2, Last: 3, Commit: 2, Round: 1, Rows: rowsOf(3, 4)},
		{Kind: api.MFeed, From: 1, Term: 4, Rows: rowsOf(1, 2, 3, 4)},
		{Kind: api.MFeed, From: 1, Term: 4, Prev: 2, Last: 3},
		{Kind: api.MFed, From: 1, Term: 4, Index: 2, Round: 1, Yes: true},
		{Kind: api.MFed, From: 1, Term: 4},
	}
}

// P11.4: each field of each kind at each edge, one and two at a time: what can't be is ErrTerm, and nothing is done.
func TestMessagesThatCantBe(t *testing.T) {
	refused, taken := 0, 0
	for _, m := range some() {
		for a := range fields {
			for _, n := range edges {
				for b := range fields {
					for _, k := range []int{-1, 0, 1, 200, 201} {
						if b <= a && (b != 0 || k != 0) {
							continue
						}
						x := pairOf(t, 0, api.Hard{Term: 3, Vote: -1}, rowsOf(1, 3), 0)
						w := odd(m, a, n)
						if b > a {
							w = odd(w, b, k)
						}
						if o := x.take(w); o.Err == api.OK {
							taken++
						} else if refused++; o.Err != api.ErrTerm {
							t.Fatal(o)
						}
					}
				}
			}
		}
	}
	if refused < 1000 || taken < 1000 {
		t.Error(refused, taken)
	}
}

// P11.4: rows that a message may bring, and may not.
func TestRowsThatCantBe(t *testing.T) {
	for _, k := range []struct {
		prev, last int
		rows       []api.Row
		errno      api.Errno
	}{
		{0, 0, nil, api.OK},
		{0, 0, rowsOf(1, 1, 2, 4), api.OK},
		{0, 0, rowsOf(1, 1, 2, 2, 4), api.ErrTerm},
		{0, 0, make([]api.Row, 1<<16), api.ErrTerm},
		{0, 0, rowsOf(0), api.ErrTerm},
		{0, 0, rowsOf(-1), api.ErrTerm},
		{0, 0, rowsOf(5), api.ErrTerm},
		{0, 0, rowsOf(2, 1), api.ErrTerm},
		{0, 1, rowsOf(1), api.ErrTerm},
		{1, 0, rowsOf(1), api.ErrTerm},
		{1, 4, rowsOf(4), api.OK},
		{1, 5, nil, api.ErrTerm},
		{1, 2, rowsOf(1), api.ErrTerm},
		{1, 2, rowsOf(2), api.OK},
		{0, 0, []api.Row{{Term: 1, Data: make([]byte, 64)}}, api.OK},
		{0, 0, []api.Row{{Term: 1, Data: make([]byte, 65)}}, api.ErrTerm},
		{0, 0, []api.Row{{Term: 1}, {Term: 1, Data: make([]byte, 1<<20)}}, api.ErrTerm},
		{196, 2, many(4, 2), api.OK},
		{197, 2, many(4, 2), api.ErrTerm},
		{200, 2, nil, api.OK},
		{200, 2, many(1, 2), api.ErrTerm},
		{201, 2, nil, api.ErrTerm},
		{1 << 40, 2, nil, api.ErrTerm},
	} {
		x := pairOf(t, 0, api.Hard{Term: 4, Vote: -1}, many(200, 2), 0)
		if o := x.take(api.Msg{Kind: api.MFeed, From: 2, Term: 4, Prev: k.prev, Last: k.last, Rows: k.rows}); o.Err != k.errno {
			t.Errorf("%d, %d, %d rows: %v", k.prev, k.last, len(k.rows), o)
		}
	}
}

// P11.4: other fields than those of a masters' message are not asked.
func TestOtherFields(t *testing.T) {
	x := pairOf(t, 0, api.Hard{Vote: -1}, nil, 0)
	m := api.Msg{Kind: api.MVote, From: 1, Term: 1, Epoch: -5, Nonce: -1, Ver: -1, Mode: 77, Yes: true, Rows: many(9, -4), Pass: []byte("x")}
	if o := x.take(m); o.Err != api.OK || !o.Send[0].Yes {
		t.Fatal(o)
	}
}

// P11.4: to whom a vote is granted.
func TestVotes(t *testing.T) {
	for _, k := range []struct {
		vote, term, index, last int
		want                    bool
		hard                    bool
	}{
		{-1, 5, 3, 4, true, true},
		{1, 5, 3, 4, true, false},  // once more
		{2, 5, 3, 4, false, false}, // it voted for another one
		{0, 5, 3, 4, false, false},
		{-1, 4, 3, 4, false, false}, // an elder term
		{1, 4, 3, 4, false, false},
		{2, 6, 3, 4, true, true}, // a new term
		{-1, 5, 2, 4, false, false},
		{-1, 5, 4, 4, true, true},
		{-1, 5, 9, 3, false, false},
		{-1, 5, 1, 5, true, true},
		{-1, 5, 0, 0, false, false},
		{-1, 6, 2, 4, false, true}, // it enters the term, and votes for nobody
	} {
		x := pairOf(t, 0, api.Hard{Term: 5, Vote: k.vote}, rowsOf(1, 2, 4), 0)
		o := x.take(api.Msg{Kind: api.MVote, From: 1, Term: k.term, Index: k.index, Last: k.last})
		if len(o.Send) != 1 || o.Send[0].Kind != api.MGrant || o.Send[0].To != 1 || o.Send[0].Yes != k.want || o.Hard != k.hard || o.Send[0].Term != max(k.term, 5) {
			t.Errorf("%+v: %+v", k, o)
		}
	}
}

// P11.4: a vote that is granted lets it wait anew, one that is not does not, nor does a new term.
func TestVotesAndTheClock(t *testing.T) {
	for _, k := range []struct{ index, ticks int }{{1, 4}, {0, 1}} {
		x := pairOf(t, 0, api.Hard{Term: 1, Vote: -1}, rowsOf(1), 0)
		for range 3 {
			x.tick(0)
		}
		x.take(api.Msg{Kind: api.MVote, From: 2, Term: 2, Index: k.index, Last: min(k.index, 1)})
		for range k.ticks - 1 {
			if o := x.tick(0); o.Send != nil {
				t.Fatal(k, o)
			}
		}
		if o := x.tick(0); o.Send == nil {
			t.Fatal(k, o)
		}
	}
}

// P11.4: which grants count.
func TestGrants(t *testing.T) {
	begin := func() *pair {
		x := pairOf(t, 0, api.Hard{Term: 1, Vote: -1}, rowsOf(1), 0)
		for range 4 {
			x.tick(0)
		}
		return x
	}
	for _, k := range []struct {
		m    api.Msg
		role int
		hard bool
	}{
		{api.Msg{From: 1, Term: 2, Yes: true}, api.Leads, false},
		{api.Msg{From: 2, Term: 2, Yes: true}, api.Leads, false},
		{api.Msg{From: 1, Term: 2}, api.Stands, false},
		{api.Msg{From: 1, Term: 1, Yes: true}, api.Stands, false},
		{api.Msg{From: 1, Term: 3, Yes: true}, api.Follows, true},
		{api.Msg{From: 1, Term: 3}, api.Follows, true},
	} {
		x := begin()
		k.m.Kind = api.MGrant
		if o := x.take(k.m); x.s.View().Role != k.role || o.Hard != k.hard {
			t.Errorf("%+v: %+v, %+v", k.m, o, x.s.View())
		}
	}
	x := begin()
	x.take(api.Msg{Kind: api.MGrant, From: 1, Term: 2, Yes: true})
	if o := x.take(api.Msg{Kind: api.MGrant, From: 2, Term: 2, Yes: true}); o.Send != nil || o.From != 0 || x.s.View().Len != 2 {
		t.Error("it led already", o)
	}
	y := pairOf(t, 0, api.Hard{Term: 2, Vote: 0}, nil, 0)
	for _, from := range []int{1, 2} {
		if o := y.take(api.Msg{Kind: api.MGrant, From: from, Term: 2, Yes: true}); o.Send != nil || y.s.View().Role != api.Follows {
			t.Error("it was made anew, and does not stand", o)
		}
	}
}

// P11.4: votes of an elder term don't count in the next one.
func TestGrantsOfOneTerm(t *testing.T) {
	x := leader(t, 0, 0, nil)
	x.take(api.Msg{Kind: api.MFeed, From: 2, Term: 2})
	for range 4 {
		x.tick(0)
	}
	if v := x.s.View(); v.Role != api.Stands || v.Hard.Term != 3 {
		t.Fatal(v)
	}
	x.take(api.Msg{Kind: api.MGrant, From: 1, Term: 1, Yes: true})
	if v := x.s.View(); v.Role != api.Stands {
		t.Fatal(v)
	}
}

// P11.4: rows that fit, and rows that don't: what is told, what becomes of the rows, which index.
func TestFed(t *testing.T) {
	has := rowsOf(1, 2, 2, 4)
	for _, k := range []struct {
		prev, last int
		rows       []int
		commit     int
		yes        bool
		index      int
		from       int
		terms      []int
		committed  int
	}{
		{0, 0, nil, 0, true, 0, 0, []int{1, 2, 2, 4}, 2},
		{4, 4, nil, 9, true, 4, 0, []int{1, 2, 2, 4}, 4},
		{4, 4, []int{4, 5}, 5, true, 6, 5, []int{1, 2, 2, 4, 4, 5}, 5},
		{4, 4, []int{5, 5, 5, 5}, 1 << 40, true, 8, 5, []int{1, 2, 2, 4, 5, 5, 5, 5}, 8},
		{2, 2, []int{2}, 4, true, 3, 0, []int{1, 2, 2, 4}, 3}, // what stands behind them stays
		{2, 2, []int{2, 5}, 1, true, 4, 4, []int{1, 2, 2, 5}, 2},
		{2, 2, []int{3, 5}, 3, true, 4, 3, []int{1, 2, 3, 5}, 3},
		{0, 0, []int{1, 2, 5}, 3, true, 3, 3, []int{1, 2, 5}, 3},
		{0, 0, []int{1, 2, 2, 4}, 0, true, 4, 0, []int{1, 2, 2, 4}, 2},
		{1, 1, []int{3}, 9, false, 0, 0, []int{1, 2, 2, 4}, 2}, // that is committed
		{0, 0, []int{2}, 9, false, 0, 0, []int{1, 2, 2, 4}, 2},
		{0, 0, []int{1, 4}, 9, false, 0, 0, []int{1, 2, 2, 4}, 2},
		{4, 5, nil, 9, false, 3, 0, []int{1, 2, 2, 4}, 2},
		{3, 1, []int{2}, 9, false, 2, 0, []int{1, 2, 2, 4}, 2},
		{1, 2, nil, 9, false, 0, 0, []int{1, 2, 2, 4}, 2},
		{5, 4, nil, 9, false, 4, 0, []int{1, 2, 2, 4}, 2},
		{100, 5, []int{5}, 9, false, 4, 0, []int{1, 2, 2, 4}, 2},
	} {
		x := pairOf(t, 1, api.Hard{Term: 5, Vote: -1}, has, 0)
		x.take(api.Msg{Kind: api.MFeed, From: 2, To: 1, Term: 5, Prev: 2, Last: 2, Commit: 2})
		o := x.take(api.Msg{Kind: api.MFeed, From: 2, To: 1, Term: 5, Prev: k.prev, Last: k.last, Rows: rowsOf(k.rows...), Commit: k.commit, Round: 77})
		if len(o.Send) != 1 || o.Hard {
			t.Fatal(k, o)
		}
		m, v := o.Send[0], x.s.View()
		if m.Kind != api.MFed || m.To != 2 || m.Round != 77 || m.Yes != k.yes || m.Index != k.index || o.From != k.from || v.Commit != k.committed || v.Lead != 2 {
			t.Errorf("%+v: %+v, %+v", k, o, v)
		}
		var terms []int
		for _, r := range x.s.Rows(1, 200) {
			terms = append(terms, r.Term)
		}
		if !slices.Equal(terms, k.terms) {
			t.Errorf("%+v: %v", k, terms)
		}
	}
}

// P11.4: a row of the same term is taken to be the same; it stays as it is.
func TestFedTheSame(t *testing.T) {
	x := pairOf(t, 1, api.Hard{Term: 5, Vote: -1}, []api.Row{{Term: 3, Data: []byte("a")}}, 0)
	o := x.take(api.Msg{Kind: api.MFeed, From: 2, To: 1, Term: 5, Rows: []api.Row{{Term: 3, Data: []byte("b")}, {Term: 3}}})
	if o.From != 2 || string(x.s.Rows(1, 1)[0].Data) != "a" {
		t.Fatal(o, x.s.Rows(1, 2))
	}
}

// P11.4: whose rows are not taken: of an elder term, or of a leader's own; the answer tells the round all the same.
func TestFedByNobody(t *testing.T) {
	x := pairOf(t, 1, api.Hard{Term: 5, Vote: -1}, rowsOf(1), 0)
	for range 3 {
		x.tick(0)
	}
	o := x.take(api.Msg{Kind: api.MFeed, From: 0, To: 1, Term: 4, Prev: 1, Last: 1, Rows: rowsOf(4), Round: 3, Commit: 2})
	if m := o.Send[0]; m.Yes || m.Index != 0 || m.Round != 3 || m.Term != 5 || x.s.View().Lead != -1 || x.s.View().Commit != 0 {
		t.Error(o, x.s.View())
	}
	if o := x.tick(0); len(o.Send) != 2 {
		t.Error("its clock went on", o)
	}
	y := leader(t, 1, 4, rowsOf(1))
	o = y.take(api.Msg{Kind: api.MFeed, From: 0, To: 1, Term: 5, Prev: 1, Last: 1, Rows: rowsOf(4), Round: 3})
	if m := o.Send[0]; m.Yes || m.Index != 0 || m.Round != 3 || o.From != 0 || y.s.View().Role != api.Leads {
		t.Error(o)
	}
	z := pairOf(t, 1, api.Hard{Term: 4, Vote: -1}, rowsOf(1), 0)
	for range 4 {
		z.tick(0)
	}
	o = z.take(api.Msg{Kind: api.MFeed, From: 0, To: 1, Term: 5, Prev: 1, Last: 1, Rows: rowsOf(4)})
	if v := z.s.View(); !o.Send[0].Yes || v.Role != api.Follows || v.Lead != 0 || v.Hard != (api.Hard{Term: 5, Vote: 1}) || o.Hard {
		t.Error("who stands falls to who leads in its term", o, v)
	}
	for range 3 {
		if o := z.tick(0); o.Send != nil {
			t.Error("its clock began anew", o)
		}
	}
}

// P11.4: what a leader makes of answers: the next index, up to where one matches, what is committed, whom it feeds.
func TestHears(t *testing.T) {
	begin := func() *pair {
		x := leader(t, 0, 4, rowsOf(1, 2, 2, 4)) // row 5 is its own
		x.propose([]byte("a"))
		x.propose([]byte("b"))
		return x
	}
	for _, k := range []struct {
		index int
		yes   bool
		prev  int // -1: nobody is fed
		next  int // Prev at the next tick
		done  int
	}{
		{0, false, 0, 0, 0},
		{3, false, 3, 3, 0},
		{4, false, -1, 4, 0},   // that is the next one already
		{7, false, -1, 7, 0},   // above: it is not fed now
		{200, false, -1, 7, 0}, // no more than there are
		{4, true, 4, 4, 0},
		{3, true, 4, 4, 0}, // the next one does not fall
		{0, true, 4, 4, 0},
		{5, true, 5, 5, 5},
		{6, true, 6, 6, 6},
		{7, true, -1, 7, 7},
		{200, true, -1, 7, 7},
	} {
		x := begin()
		o := x.fed(2, k.index, 0, k.yes)
		if k.prev < 0 != (o.Send == nil) || o.Send != nil && (len(o.Send) != 1 || o.Send[0].To != 2 || o.Send[0].Prev != k.prev || o.Send[0].Commit != k.done) {
			t.Errorf("%+v: %+v", k, o)
		}
		if x.s.View().Commit != k.done {
			t.Errorf("%+v: %+v", k, x.s.View())
		}
		if m := x.tick(0).Send[1]; m.Prev != k.next {
			t.Errorf("%+v: %+v", k, m)
		}
	}
	x := begin()
	x.fed(1, 6, 0, true)
	if o := x.fed(1, 2, 0, false); o.Send != nil || x.tick(0).Send[0].Prev != 6 {
		t.Error("it is not fed again what it has", o)
	}
	if o := x.fed(1, 3, 0, true); len(o.Send) != 1 || o.Send[0].Prev != 6 || x.s.View().Commit != 6 {
		t.Error("an elder answer changes nothing", o)
	}
	y := begin()
	y.fed(1, 7, 0, false)
	if y.s.View().Commit != 0 {
		t.Error("a no commits nothing")
	}
	if o := y.take(api.Msg{Kind: api.MFed, From: 1, Term: 4, Index: 7, Yes: true}); o.Send != nil || y.s.View().Commit != 0 {
		t.Error("an elder term's answer", o)
	}
	if o := y.take(api.Msg{Kind: api.MFed, From: 1, Term: 6, Index: 7, Yes: true}); o.Send != nil || !o.Hard || y.s.View().Role != api.Follows || y.s.View().Hard != (api.Hard{Term: 6, Vote: -1}) {
		t.Error("a greater term's answer", o)
	}
}

// P11.4: a leader knows nothing of what others had in an elder term of its own.
func TestLeadsAnew(t *testing.T) {
	x := leader(t, 0, 0, nil)
	x.propose([]byte("a"))
	x.fed(1, 2, 0, true)
	x.take(api.Msg{Kind: api.MVote, From: 2, Term: 5, Index: 2, Last: 1})
	for range 4 {
		x.tick(0)
	}
	o := x.take(api.Msg{Kind: api.MGrant, From: 2, Term: 6, Yes: true})
	if len(o.Send) != 2 || o.Send[0].Prev != 2 || o.Send[0].Round != 0 || o.Send[0].Commit != 2 || x.s.View().Commit != 2 {
		t.Fatal(o)
	}
	if o := x.fed(1, 0, 0, false); len(o.Send) != 1 || o.Send[0].Prev != 0 {
		t.Fatal("it matched in an elder term", o)
	}
}
