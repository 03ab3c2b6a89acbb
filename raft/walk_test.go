package raft_test

import (
	"math/rand/v2"
	"slices"
	"testing"

	"towline/api"
)

// someRows is rows that rise by chance from a term on, at most so many.
func someRows(r *rand.Rand, most, from, to int) []api.Row {
	var out []api.Row
	for range r.IntN(most + 1) {
		from = min(to, from+r.IntN(4)/3)
		out = append(out, api.Row{Term: from, Data: []byte{byte(r.IntN(250))}[:r.IntN(2)]})
	}
	return out
}

// forged is a message about what a state is; most may be, and hardly any is one that others would send.
func forged(r *rand.Rand, v api.View, terms []int) api.Msg {
	m := api.Msg{Kind: 1 + r.IntN(4), From: (v.ID + 1 + r.IntN(2)) % 3, To: v.ID, Yes: r.IntN(4) > 0, Round: r.IntN(6), Commit: r.IntN(v.Len + 2)}
	m.Term = max(1, v.Hard.Term+[]int{-1, 1, 2}[r.IntN(3)]*(r.IntN(12)/11))
	if v.Role > api.Follows && r.IntN(2) == 0 {
		m.Kind = 2 * v.Role // what it waits for
	}
	index := max(0, v.Len+2-r.IntN(7))
	last := 0
	if index > 0 && index <= len(terms) {
		last = terms[index-1]
	}
	if index > 0 && r.IntN(4) == 0 || index > len(terms) {
		last = 1 + r.IntN(m.Term)
	}
	switch m.Kind {
	case api.MVote:
		m.Index, m.Last = index, last
	case api.MFeed:
		m.Prev, m.Last = index, last
		m.Rows = someRows(r, 4, max(last, 1), m.Term)
	case api.MFed:
		m.Index = index
	}
	if r.IntN(60) == 0 {
		m = odd(m, r.IntN(fields), edges[r.IntN(len(edges))])
	}
	return m
}

// P11.1 to P11.4: whatever comes, a state does what the chapter's words say.
func TestForged(t *testing.T) {
	r := rand.New(rand.NewPCG(110, 1))
	led, sure, cut := 0, 0, 0
	for range 4000 {
		term := []int{0, 0, 1, 3, 9, 1<<40 - 2}[r.IntN(6)]
		var rows []api.Row
		if term > 0 {
			rows = someRows(r, []int{0, 3, 8, 200}[r.IntN(4)], max(1, term-2), term)
		}
		if term > 0 && r.IntN(9) == 0 {
			rows = many(190+r.IntN(11), 1)
		}
		x := pairOf(t, r.IntN(3), api.Hard{Term: term, Vote: r.IntN(4) - 1}, rows, r.IntN(8))
		for range r.IntN(2) * 11 {
			x.tick(r.IntN(8))
		}
		for range 40 {
			v := x.s.View()
			var terms []int
			for _, row := range x.p.rows {
				terms = append(terms, row.Term)
			}
			switch n := r.IntN(20); {
			case n < 5:
				x.tick(r.IntN(9) - r.IntN(30)/29)
			case n < 7:
				x.propose(make([]byte, []int{1, 2, 64, 0, 65}[r.IntN(5)]))
			case n < 9:
				x.ask(r.IntN(100))
			default:
				o := x.take(forged(r, v, terms))
				sure += len(o.Sure)
				if o.From > 0 && x.s.View().Len < v.Len {
					cut++
				}
			}
			if x.s.View().Role == api.Leads && v.Role != api.Leads {
				led++
			}
		}
	}
	if led < 1000 || sure < 1000 || cut < 200 {
		t.Error(led, sure, cut)
	}
}

// P11.4: no matter in which order a message's faults stand, nothing is done.
func TestForgedChangesNothing(t *testing.T) {
	r := rand.New(rand.NewPCG(111, 1))
	for range 20000 {
		x := pairOf(t, 0, api.Hard{Term: 3, Vote: -1}, rowsOf(1, 2), 0)
		m := some()[r.IntN(8)]
		for range 1 + r.IntN(3) {
			m = odd(m, r.IntN(fields), edges[r.IntN(len(edges))])
		}
		m.Rows = slices.Clone(m.Rows)
		if was := x.s.View(); x.take(m).Err != api.OK && x.s.View() != was {
			t.Fatal(m)
		}
	}
}
