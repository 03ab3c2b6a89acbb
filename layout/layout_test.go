package layout_test

import (
	"math/rand/v2"
	"slices"
	"testing"

	"towline/api"
	"towline/layout"
	"towline/mask"
)

// equal is whether two chains are, by the test's own eyes.
func equal(a, b api.Chain) bool {
	if a.Epoch != b.Epoch || len(a.Members) != len(b.Members) {
		return false
	}
	for i, m := range a.Members {
		if o := b.Members[i]; m.Node != o.Node || m.Site != o.Site || m.Fresh != o.Fresh {
			return false
		}
	}
	return true
}

// P8.1: chains that may be, and that can't be.
func TestCheck(t *testing.T) {
	for _, c := range []api.Chain{
		chain(1, one(0, 0)), chain(1<<40, one(5, 2)), chain(7, one(3, 1), late(4, 1), late(0, 2)), chain(2, one(0, 0), one(1, 2)),
		chain(1, one(5, 0), one(4, 0), one(3, 1), one(2, 1), one(1, 2), one(0, 2)),
	} {
		if e := layout.Check(c); e != api.OK || !mayBe(c) {
			t.Errorf("%v: %d", c, e)
		}
	}
	for _, c := range broken() {
		if e := layout.Check(c); e != api.ErrChain || mayBe(c) {
			t.Errorf("%v: %d", c, e)
		}
	}
	r := rand.New(rand.NewPCG(80, 1))
	for range 20000 {
		c := api.Chain{Epoch: r.IntN(3)}
		for range r.IntN(5) {
			c.Members = append(c.Members, api.Member{Node: r.IntN(8) - 1, Site: r.IntN(5) - 1, Fresh: r.IntN(3) == 0})
		}
		want := api.ErrChain
		if mayBe(c) {
			want = api.OK
		}
		if e := layout.Check(c); e != want {
			t.Fatalf("%v: %d", c, e)
		}
	}
}

// P8.1: the first chain, by rising sites, of one site as it was handed in.
func TestFirst(t *testing.T) {
	for _, c := range []struct{ l, want []api.Member }{
		{[]api.Member{one(2, 1), one(0, 0)}, []api.Member{one(0, 0), one(2, 1)}},
		{[]api.Member{one(5, 2)}, []api.Member{one(5, 2)}},
		{[]api.Member{one(5, 1), one(4, 0), one(3, 2), one(2, 0), one(1, 1), one(0, 2)}, []api.Member{one(4, 0), one(2, 0), one(5, 1), one(1, 1), one(3, 2), one(0, 2)}},
		{[]api.Member{one(3, 0), one(0, 0), one(5, 0)}, []api.Member{one(3, 0), one(0, 0), one(5, 0)}},
	} {
		got, e := layout.First(c.l...)
		if e != api.OK || !equal(got, chain(1, c.want...)) {
			t.Errorf("%v: %v, %d", c.l, got, e)
		}
	}
	for _, l := range [][]api.Member{
		nil, {},
		{late(0, 0)}, {one(0, 0), late(1, 0)}, {late(1, 1), one(0, 0)},
		{one(0, 0), one(0, 1)}, {one(0, 0), one(1, 0), one(0, 0)},
		{one(6, 0)}, {one(-1, 0)}, {one(0, 3)}, {one(0, -1)}, {one(0, 0), one(1, 3)}, {one(0, 0), one(1, -1)}, {one(0, 0), one(64, 0)},
		make([]api.Member, 1<<16),
	} {
		if got, e := layout.First(l...); e != api.ErrChain || !equal(got, api.Chain{}) {
			t.Errorf("%v: %v, %d", l, got, e)
		}
	}
}

// P8.1, P8.5, P8.6: places and neighbours of all small chains; Next goes from the head through all.
func TestPlaces(t *testing.T) {
	r := rand.New(rand.NewPCG(81, 1))
	all := chains(3, 3)
	for range 500 {
		all = append(all, some(r))
	}
	for _, c := range all {
		n := len(c.Members)
		if layout.Head(c) != c.Members[0].Node || layout.Tail(c) != c.Members[n-1].Node {
			t.Fatalf("%v: %d, %d", c, layout.Head(c), layout.Tail(c))
		}
		if !layout.Whole(c).Has(layout.Head(c)) {
			t.Fatalf("%v: the head has not all", c)
		}
		node := layout.Head(c)
		for i, m := range c.Members {
			next := layout.Next(c, m.Node)
			if node != m.Node || layout.Place(c, m.Node) != i || i == 0 && layout.Back(c, m.Node) != -1 || i == n-1 && next != -1 {
				t.Fatalf("%v, %d: %d, %d, %d", c, m.Node, layout.Place(c, m.Node), layout.Back(c, m.Node), next)
			}
			if i < n-1 && (next != c.Members[i+1].Node || layout.Back(c, next) != m.Node) {
				t.Fatalf("%v, %d: %d", c, m.Node, next)
			}
			node = next
		}
		for _, k := range odd {
			there := slices.ContainsFunc(c.Members, func(m api.Member) bool { return m.Node == k })
			if !there && (layout.Place(c, k) != -1 || layout.Next(c, k) != -1 || layout.Back(c, k) != -1) {
				t.Fatalf("%v: %d", c, k)
			}
		}
	}
}

// P8.1: in a chain that can't be nobody has a place.
func TestPlacesOfNone(t *testing.T) {
	for _, c := range broken() {
		if layout.Head(c) != -1 || layout.Tail(c) != -1 {
			t.Errorf("%v: %d, %d", c, layout.Head(c), layout.Tail(c))
		}
		for _, n := range odd {
			if layout.Place(c, n) != -1 || layout.Next(c, n) != -1 || layout.Back(c, n) != -1 {
				t.Errorf("%v: %d", c, n)
			}
		}
	}
}

// P8.1: sets of nodes, whatever the chain.
func TestSets(t *testing.T) {
	for _, c := range []struct {
		c           api.Chain
		nodes, rest mask.Set
	}{
		{api.Chain{}, 0, 0},
		{chain(1, one(0, 0), late(5, 0), one(2, 1)), mask.Of(0, 2, 5), mask.Of(0, 2)},
		{chain(0, late(3, 9), one(1, -1), one(1, 0)), mask.Of(1, 3), mask.Of(1)},
		{chain(1, one(0, 0), late(0, 0)), mask.Of(0), mask.Of(0)},
		{chain(1, one(6, 0), late(63, 0), one(64, 0), one(-1, 0)), mask.Of(6, 63), mask.Of(6)},
	} {
		if layout.Nodes(c.c) != c.nodes || layout.Whole(c.c) != c.rest {
			t.Errorf("%v: %v, %v", c.c, layout.Nodes(c.c).All(), layout.Whole(c.c).All())
		}
	}
}

// P8.1: chains that are the same, also such as can't be, and not.
func TestSame(t *testing.T) {
	list := append(broken(), api.Chain{Epoch: 1, Members: []api.Member{}}, chain(1, one(0, 0)), chain(2, one(0, 0)), chain(1, one(0, 1)), chain(1, one(1, 0)),
		chain(1, one(0, 0), one(1, 0)), chain(1, one(1, 0), one(0, 0)), chain(1, one(0, 0), late(1, 0)))
	for _, a := range list {
		for _, b := range list {
			b.Members = slices.Clone(b.Members)
			if layout.Same(a, b) != equal(a, b) {
				t.Errorf("%v, %v: %v", a, b, layout.Same(a, b))
			}
		}
	}
}
