package plan_test

import (
	"math"
	"math/rand/v2"
	"slices"
	"testing"

	"towline/api"
	"towline/layout"
	"towline/ledger"
	"towline/mask"
	"towline/plan"
)

// homes are those of the examples: two nodes a site.
var homes = api.Home{0, 0, 1, 1, 2, 2}

// P14.2, P14.3: the chapter's example.
func TestExample(t *testing.T) {
	c, h, w := chain(1, one(0, 0), one(1, 1)), api.Home{0, 1, 1, 0, 0, 0}, api.Wish{1, 1, 0}
	l, d, e := plan.All(c, mask.Of(0, 2), h, w)
	if e != api.OK || !slices.Equal(l, []api.Command{dead(1, 1), joins(2, 1, 2)}) || !same(d, chain(3, one(0, 0), one(2, 1))) {
		t.Error(l, d, e)
	}
}

// P14.1: homes and wishes that may be, and that can't be.
func TestCheck(t *testing.T) {
	c := chain(1, one(0, 0))
	for node := range 6 {
		for _, n := range []int{math.MinInt, -1, 0, 1, 2, 3, math.MaxInt} {
			h := homes
			h[node] = n
			want := api.OK
			if n < 0 || n > 2 {
				want = api.ErrArg
			}
			if e := plan.Check(h, api.Wish{}); e != want {
				t.Error(h, e)
			}
			wrongs(t, c, h, api.Wish{}, want)
		}
	}
	for site := range 3 {
		for _, n := range []int{math.MinInt, -1, 0, 1, 6, 7, math.MaxInt} {
			var w api.Wish
			w[site] = n
			want := api.OK
			if n < 0 || n > 6 {
				want = api.ErrArg
			}
			if e := plan.Check(homes, w); e != want {
				t.Error(w, e)
			}
			wrongs(t, c, homes, w, want)
		}
	}
}

// wrongs checks which error Next and All tell, and that nothing is told beside it.
func wrongs(t *testing.T, c api.Chain, h api.Home, w api.Wish, want api.Errno) {
	t.Helper()
	k, ok, e := plan.Next(c, mask.Of(0), h, w)
	l, d, f := plan.All(c, mask.Of(0), h, w)
	if e != want || f != want {
		t.Errorf("%v, %v, %v: %d, %d", c, h, w, e, f)
	}
	if want != api.OK && (ok || k != (api.Command{}) || l != nil || d.Epoch != 0 || d.Members != nil) {
		t.Errorf("%v, %v, %v: %v, %v, %v", c, h, w, k, l, d)
	}
}

// P14.2, P14.3: of chains that can't be, whatever else is wrong.
func TestWrongChains(t *testing.T) {
	for _, c := range []api.Chain{
		{}, {Epoch: 1}, chain(0, one(0, 0)), chain(1<<40+1, one(0, 0)), chain(1, late(0, 0)), chain(1, one(0, 1), one(1, 0)), chain(1, one(0, 0), one(0, 0)), chain(1, one(6, 0)), chain(1, one(0, 3)),
	} {
		wrongs(t, c, homes, api.Wish{1, 1, 1}, api.ErrChain)
		wrongs(t, c, api.Home{9}, api.Wish{-1}, api.ErrChain)
	}
}

// P14.1: how many nodes sites have too few, whatever the chain and the wishes.
func TestLacks(t *testing.T) {
	c := chain(1, one(0, 0), late(1, 0), one(2, 2))
	for _, k := range []struct {
		c       api.Chain
		w, want api.Wish
	}{
		{c, api.Wish{2, 0, 1}, api.Wish{}},
		{c, api.Wish{3, 1, 1}, api.Wish{1, 1, 0}},
		{c, api.Wish{6, 6, 6}, api.Wish{4, 6, 5}},
		{c, api.Wish{1, 0, 0}, api.Wish{}},
		{c, api.Wish{-1, -1, -1}, api.Wish{}},
		{c, api.Wish{math.MinInt, math.MinInt, math.MinInt}, api.Wish{}},
		{c, api.Wish{math.MaxInt, math.MaxInt, math.MaxInt}, api.Wish{math.MaxInt - 2, math.MaxInt, math.MaxInt - 1}},
		{api.Chain{}, api.Wish{1, 0, 2}, api.Wish{1, 0, 2}},
		{chain(0, late(0, 0), one(0, 0), one(0, 3), one(0, -1), one(9, 2), one(0, math.MaxInt)), api.Wish{3, 3, 3}, api.Wish{1, 3, 2}},
	} {
		if got := plan.Lacks(k.c, k.w); got != k.want {
			t.Errorf("%v, %v: %v", k.c, k.w, got)
		}
	}
}

// P14.2: what is to be told next, case by case.
func TestNext(t *testing.T) {
	for _, k := range []struct {
		c     api.Chain
		alive mask.Set
		w     api.Wish
		want  api.Command
		ok    bool
	}{
		{chain(7, one(0, 0), one(2, 1)), mask.Of(0, 2), api.Wish{1, 1, 0}, api.Command{}, false},
		{chain(7, one(0, 0), one(2, 1)), mask.Of(0, 1, 2, 3, 4, 5), api.Wish{}, api.Command{}, false}, // nobody is too many
		{chain(7, one(0, 0), one(2, 1)), mask.Of(0), api.Wish{2, 2, 2}, dead(2, 7), true},
		{chain(7, one(0, 0), one(2, 1)), mask.Of(1, 3), api.Wish{2, 2, 2}, dead(0, 7), true},
		{chain(7, one(0, 0), one(2, 1)), 0, api.Wish{}, dead(0, 7), true},
		{chain(7, one(0, 0)), 0, api.Wish{}, api.Command{}, false},         // the last one stays
		{chain(7, one(0, 0), late(2, 1)), 0, api.Wish{}, dead(2, 7), true}, // the head can't go, the next one can
		{chain(7, one(0, 0), late(2, 1)), mask.Of(2), api.Wish{}, api.Command{}, false},
		{chain(7, one(0, 0), late(2, 1), one(4, 2)), mask.Of(2, 4), api.Wish{}, dead(0, 7), true},
		{chain(7, one(0, 0), late(2, 1)), mask.Of(0, 1, 2), api.Wish{2, 2, 2}, api.Command{}, false}, // somebody is fresh
		{chain(7, one(0, 0), one(2, 1)), mask.Of(0, 1, 2, 3), api.Wish{2, 2, 2}, joins(1, 0, 7), true},
		{chain(7, one(0, 0), one(2, 1)), mask.Of(0, 2, 3), api.Wish{2, 2, 2}, joins(3, 1, 7), true}, // site 0 has no spare one
		{chain(7, one(0, 0), one(2, 1)), mask.Of(0, 1, 2, 3, 5), api.Wish{1, 1, 1}, joins(5, 2, 7), true},
		{chain(7, one(0, 0), one(2, 1)), mask.Of(0, 2, 4, 5), api.Wish{1, 1, 6}, joins(4, 2, 7), true},
		{chain(7, one(4, 2)), mask.Of(0, 1, 2, 4, 5), api.Wish{1, 1, 2}, joins(5, 2, 7), true}, // ahead of the head nobody joins
		{chain(7, one(4, 2)), mask.Of(0, 1, 2, 4, 5), api.Wish{1, 1, 1}, api.Command{}, false},
		{chain(7, one(0, 0), one(4, 0)), mask.Of(0, 4, 5), api.Wish{2, 0, 1}, joins(5, 2, 7), true}, // it stands elsewhere than at home
		{chain(7, one(0, 0)), mask.Of(0, 6, 7, 63), api.Wish{6, 6, 6}, api.Command{}, false},        // these are no nodes
		{chain(1<<40, one(0, 0), one(2, 1)), mask.Of(0, 1), api.Wish{2, 0, 0}, api.Command{}, false},
		{chain(1<<40-1, one(0, 0), one(2, 1)), mask.Of(0, 1), api.Wish{2, 0, 0}, dead(2, 1<<40-1), true},
	} {
		got, ok, e := plan.Next(k.c, k.alive, homes, k.w)
		if e != api.OK || ok != k.ok || got != k.want {
			t.Errorf("%v, %v, %v: %v, %v, %d, not %v", k.c, k.alive.All(), k.w, got, ok, e, k.want)
		}
	}
}

// P14.3: all that is to be told, case by case, and the chain behind it.
func TestAll(t *testing.T) {
	for _, k := range []struct {
		c     api.Chain
		alive mask.Set
		w     api.Wish
		want  []api.Command
		after api.Chain
	}{
		{chain(3, one(0, 0), late(2, 1)), mask.Of(0, 2), api.Wish{}, nil, chain(3, one(0, 0), one(2, 1))}, // alive: it has all by then
		{chain(3, one(0, 0), late(2, 1)), mask.Of(0), api.Wish{}, []api.Command{dead(2, 3)}, chain(4, one(0, 0))},
		{chain(3, one(0, 0), late(2, 1)), mask.Of(2), api.Wish{}, []api.Command{dead(0, 3)}, chain(4, one(2, 1))},
		{chain(3, one(0, 0), late(2, 1)), 0, api.Wish{}, []api.Command{dead(2, 3)}, chain(4, one(0, 0))},
		{chain(3, one(0, 0)), 0, api.Wish{1, 1, 1}, nil, chain(3, one(0, 0))},
		{chain(3, one(0, 0), late(2, 0), one(1, 1)), mask.Of(1), api.Wish{}, []api.Command{dead(0, 3)}, chain(4, one(1, 1))}, // who is fresh goes with the head
		{
			chain(1, one(0, 0)), mask.Of(0, 1, 2, 3, 4, 5), api.Wish{2, 2, 2},
			[]api.Command{joins(1, 0, 1), joins(2, 1, 2), joins(3, 1, 3), joins(4, 2, 4), joins(5, 2, 5)},
			chain(6, one(0, 0), one(1, 0), one(2, 1), one(3, 1), one(4, 2), one(5, 2)),
		},
		{chain(1, one(0, 0), one(4, 2)), mask.Of(1, 5), api.Wish{1, 1, 1}, []api.Command{dead(0, 1)}, chain(2, one(4, 2))}, // dead, and still a member
		{
			chain(1, one(0, 0), one(2, 1), one(4, 2)), mask.Of(1, 3, 5), api.Wish{1, 1, 2},
			// The last one that has all stays, until another one has; nobody joins ahead of it.
			[]api.Command{dead(0, 1), dead(2, 2), joins(5, 2, 3), dead(4, 4)},
			chain(5, one(5, 2)),
		},
		{chain(1<<40-1, one(0, 0)), mask.Of(0, 1, 2), api.Wish{2, 2, 0}, []api.Command{joins(1, 0, 1<<40-1)}, chain(1<<40, one(0, 0), one(1, 0))},
	} {
		l, c, e := plan.All(k.c, k.alive, homes, k.w)
		if e != api.OK || !slices.Equal(l, k.want) || !same(c, k.after) {
			t.Errorf("%v, %v, %v: %v, %v, %d, not %v", k.c, k.alive.All(), k.w, l, c, e, k.want)
		}
	}
}

// follow checks all that All told, command by command, as a ledger's changes, and tells the chain behind them.
func follow(t *testing.T, c api.Chain, alive mask.Set, h api.Home, w api.Wish, l []api.Command) api.Chain {
	t.Helper()
	for _, k := range l {
		c = ready(c, alive)
		want, ok := next(c, alive, h, w)
		if !ok || k != want || ledger.Check(k) != api.OK {
			t.Fatalf("%v of %v, not %v", k, c, want)
		}
		var e api.Errno
		if k.Kind == api.CDead {
			if alive.Has(k.Node) {
				t.Fatal("P14.5: it is alive", k)
			}
			c, e = layout.Drop(c, k.Node)
		} else {
			c, e = layout.Join(c, one(k.Node, k.Site))
		}
		if e != api.OK {
			t.Fatal("P14.5: it can't be done", k, e)
		}
	}
	return ready(c, alive)
}

// wished is P14.6, of the chain behind all.
func wished(t *testing.T, c api.Chain, alive mask.Set, h api.Home, w api.Wish) {
	t.Helper()
	for site, many := range plan.Lacks(c, w) {
		spare := -1
		for node := range 6 {
			if alive.Has(node) && h[node] == site && !layout.Nodes(c).Has(node) {
				spare = node
			}
		}
		if many > 0 && spare >= 0 && c.Members[0].Site <= site {
			t.Fatalf("P14.6: site %d of %v lacks %d, and %d is spare", site, c, many, spare)
		}
	}
	for _, m := range c.Members {
		if !alive.Has(m.Node) && layout.Whole(c) != mask.Of(m.Node) {
			t.Fatalf("P14.6: %d of %v is dead", m.Node, c)
		}
	}
}

// P14.2 to P14.6: of chains, who is alive, homes and wishes by chance.
func TestChains(t *testing.T) {
	r := rand.New(rand.NewPCG(140, 1))
	most := 0
	for range 60000 {
		c, alive := some(r), mask.Set(r.Uint64()&r.Uint64())
		if r.IntN(2) == 0 {
			alive = mask.Set(r.Uint64() | r.Uint64())
		}
		h, w := someWish(r)
		want, there := next(c, alive, h, w)
		if got, ok, e := plan.Next(c, alive, h, w); e != api.OK || ok != there || got != want {
			t.Fatalf("%v, %v, %v, %v: %v, %v, not %v", c, alive.All(), h, w, got, ok, want)
		}
		l, d, e := plan.All(c, alive, h, w)
		if e != api.OK || len(l) > 12 {
			t.Fatalf("P14.4: %v, %d", l, e)
		}
		most = max(most, len(l))
		if after := follow(t, c, alive, h, w, l); !same(d, after) || layout.Check(d) != api.OK {
			t.Fatalf("%v, %v, %v, %v: %v, not %v", c, alive.All(), h, w, d, after)
		}
		if k, ok, e := plan.Next(d, alive, h, w); ok || e != api.OK {
			t.Fatalf("P14.4: %v is told of %v behind all", k, d)
		}
		if d.Epoch < 1<<40 {
			wished(t, d, alive, h, w)
		}
	}
	if most < 6 {
		t.Error(most)
	}
}

// The rule Memory: a chain that is handed in stays as it is, and is not told.
func TestMemory(t *testing.T) {
	room := []api.Member{one(0, 0), late(2, 1), one(9, 9), one(9, 9)}
	for _, alive := range []mask.Set{mask.Of(0), mask.Of(0, 2), mask.Of(0, 1, 2), mask.Of(2)} {
		for _, n := range []int{1, 2} {
			c, was := chain(3, room[:n]...), slices.Clone(room)
			plan.Next(c, alive, homes, api.Wish{2, 2, 2})
			plan.Lacks(c, api.Wish{2, 2, 2})
			_, a, _ := plan.All(c, alive, homes, api.Wish{2, 2, 2})
			_, b, _ := plan.All(c, alive, homes, api.Wish{2, 2, 2})
			kept := slices.Clone(b.Members)
			for i := range a.Members[:cap(a.Members)] {
				a.Members[:cap(a.Members)][i] = one(8, 8)
			}
			if !slices.Equal(room, was) || !slices.Equal(b.Members, kept) {
				t.Error(room, b)
			}
		}
	}
}
