package layout_test

import (
	"math"
	"math/rand/v2"
	"slices"
	"testing"

	"towline/api"
	"towline/layout"
)

// told checks what a change tells, and that it follows the chain that was (P8.4).
func told(t *testing.T, name string, c, got api.Chain, e api.Errno, want api.Chain, errno api.Errno) {
	t.Helper()
	if e != errno || !equal(got, want) {
		t.Fatalf("%s of %v: %v, %d, not %v, %d", name, c, got, e, want, errno)
	}
	if e == api.OK && (layout.Check(got) != api.OK || !layout.Follows(c, got) || !follows(c, got) || got.Epoch != c.Epoch+1) {
		t.Fatalf("%s of %v: %v does not follow", name, c, got)
	}
}

// P8.1, P8.2: the chapter's example.
func TestExample(t *testing.T) {
	c, e := layout.First(one(2, 1), one(0, 0))
	if e != api.OK || !equal(c, chain(1, one(0, 0), one(2, 1))) {
		t.Fatal(c, e)
	}
	d, e := layout.Join(c, one(1, 0))
	told(t, "Join", c, d, e, chain(2, one(0, 0), late(1, 0), one(2, 1)), api.OK)
	g, e := layout.Drop(d, 0)
	told(t, "Drop", d, g, e, chain(3, one(2, 1)), api.OK)
}

// P8.2, P8.4, P8.6: nodes and sites go, of all small chains.
func TestDropAll(t *testing.T) {
	for _, epoch := range []int{1, 9, 1<<40 - 1, 1 << 40} {
		for _, c := range chains(epoch, 3) {
			for _, n := range odd {
				got, e := layout.Drop(c, n)
				want, errno := dropped(c, func(m api.Member) bool { return m.Node == n })
				told(t, "Drop", c, got, e, want, errno)
				got, e = layout.DropSite(c, n)
				want, errno = dropped(c, func(m api.Member) bool { return m.Site == n })
				told(t, "DropSite", c, got, e, want, errno)
			}
		}
	}
}

// P8.2: who goes, and which error is the first one.
func TestDrop(t *testing.T) {
	c := chain(4, one(0, 0), late(1, 0), late(2, 1), one(3, 1), late(4, 2))
	for _, k := range []struct {
		node  int
		want  []api.Member
		errno api.Errno
	}{
		{0, []api.Member{one(3, 1), late(4, 2)}, api.OK},
		{1, []api.Member{one(0, 0), late(2, 1), one(3, 1), late(4, 2)}, api.OK},
		{3, []api.Member{one(0, 0), late(1, 0), late(2, 1), late(4, 2)}, api.OK},
		{5, nil, api.ErrNode}, {-1, nil, api.ErrNode}, {64, nil, api.ErrNode}, {math.MinInt, nil, api.ErrNode},
	} {
		want := api.Chain{}
		if k.errno == api.OK {
			want = chain(5, k.want...)
		}
		got, e := layout.Drop(c, k.node)
		told(t, "Drop", c, got, e, want, k.errno)
	}
	got, e := layout.DropSite(c, 1)
	told(t, "DropSite", c, got, e, chain(5, one(0, 0), late(1, 0), late(4, 2)), api.OK)
	got, e = layout.DropSite(c, 0)
	told(t, "DropSite", c, got, e, chain(5, one(3, 1), late(4, 2)), api.OK)
	last := chain(4, one(0, 0), late(1, 0), late(2, 1))
	got, e = layout.Drop(last, 0)
	told(t, "Drop", last, got, e, api.Chain{}, api.ErrLast)
	got, e = layout.DropSite(last, 0)
	told(t, "DropSite", last, got, e, api.Chain{}, api.ErrLast)
	last.Epoch = 1 << 40
	for _, n := range []int{0, 1, 5} {
		got, e = layout.Drop(last, n)
		told(t, "Drop", last, got, e, api.Chain{}, api.ErrRange)
		got, e = layout.DropSite(last, n)
		told(t, "DropSite", last, got, e, api.Chain{}, api.ErrRange)
	}
}

// P8.2, P8.4: each member joins each small chain, and what is none does not.
func TestJoinAll(t *testing.T) {
	for _, epoch := range []int{1, 1<<40 - 1, 1 << 40} {
		for _, c := range chains(epoch, 3) {
			for _, node := range []int{-1, 0, 1, 2, 3, 5, 6, 64, math.MaxInt} {
				for _, site := range []int{math.MinInt, -1, 0, 1, 2, 3} {
					want, errno := joined(c, one(node, site))
					got, e := layout.Join(c, one(node, site))
					told(t, "Join", c, got, e, want, errno)
					got, e = layout.Join(c, late(node, site))
					told(t, "Join", c, got, e, want, errno)
				}
			}
		}
	}
}

// P8.2: where one stands that joined, and which error is the first one.
func TestJoin(t *testing.T) {
	c := chain(4, one(0, 1), late(1, 1), one(2, 2))
	full := chain(1<<40, one(0, 1), late(1, 1), one(2, 2))
	for _, k := range []struct {
		c     api.Chain
		m     api.Member
		want  []api.Member
		errno api.Errno
	}{
		{c, one(5, 1), []api.Member{one(0, 1), late(1, 1), late(5, 1), one(2, 2)}, api.OK},
		{c, one(5, 2), []api.Member{one(0, 1), late(1, 1), one(2, 2), late(5, 2)}, api.OK},
		{chain(4, one(0, 0), one(2, 2)), one(5, 1), []api.Member{one(0, 0), late(5, 1), one(2, 2)}, api.OK},
		{c, one(5, 0), nil, api.ErrHead},
		{full, one(5, 0), nil, api.ErrRange},
		{full, one(0, 0), nil, api.ErrThere},
		{full, one(0, 3), nil, api.ErrNode},
		{full, one(6, 0), nil, api.ErrNode},
		{chain(0, one(0, 0)), one(6, 9), nil, api.ErrChain},
	} {
		want := api.Chain{}
		if k.errno == api.OK {
			want = chain(5, k.want...)
		}
		got, e := layout.Join(k.c, k.m)
		told(t, "Join", k.c, got, e, want, k.errno)
	}
}

// P8.2, P8.4: the same members once more, and one that has all now.
func TestAgainReady(t *testing.T) {
	for _, epoch := range []int{1, 1<<40 - 1, 1 << 40} {
		for _, c := range chains(epoch, 3) {
			for _, n := range odd {
				at := slices.IndexFunc(c.Members, func(m api.Member) bool { return m.Node == n })
				want, errno := api.Chain{}, api.ErrNode
				switch {
				case at >= 0 && epoch == 1<<40:
					errno = api.ErrRange
				case at >= 0:
					want, errno = chain(epoch+1, c.Members...), api.OK
				}
				got, e := layout.Again(c, n)
				told(t, "Again", c, got, e, want, errno)
				want, errno = api.Chain{}, api.ErrNode
				if at >= 0 && c.Members[at].Fresh {
					want, errno = chain(epoch, slices.Clone(c.Members)...), api.OK
					want.Members[at].Fresh = false
				}
				if got, e := layout.Ready(c, n); e != errno || !equal(got, want) || e == api.OK && layout.Check(got) != api.OK {
					t.Fatalf("Ready of %v, %d: %v, %d", c, n, got, e)
				}
			}
		}
	}
}

// P8.2: of chains that can't be, whatever else is asked.
func TestChangesOfNone(t *testing.T) {
	for _, c := range broken() {
		for _, n := range odd {
			for name, f := range map[string]func() (api.Chain, api.Errno){
				"Drop":     func() (api.Chain, api.Errno) { return layout.Drop(c, n) },
				"DropSite": func() (api.Chain, api.Errno) { return layout.DropSite(c, n) },
				"Join":     func() (api.Chain, api.Errno) { return layout.Join(c, one(n, n)) },
				"Again":    func() (api.Chain, api.Errno) { return layout.Again(c, n) },
				"Ready":    func() (api.Chain, api.Errno) { return layout.Ready(c, n) },
			} {
				if got, e := f(); e != api.ErrChain || !equal(got, api.Chain{}) {
					t.Errorf("%s of %v, %d: %v, %d", name, c, n, got, e)
				}
			}
		}
	}
}

// P8.3: each thing that is asked of a chain that follows.
func TestFollows(t *testing.T) {
	a := chain(3, one(0, 0), one(1, 0), late(2, 1))
	for _, k := range []struct {
		b    api.Chain
		want bool
	}{
		{chain(4, a.Members...), true},
		{chain(1<<40, a.Members...), true},
		{chain(3, a.Members...), false},
		{chain(2, a.Members...), false},
		{chain(1<<40+1, a.Members...), false},
		{chain(4), false},
		{chain(4, one(0, 0)), true},
		{chain(4, one(2, 1)), true}, // it was there, though it had not all
		{chain(4, one(2, 0), late(5, 0)), true},
		{chain(4, one(0, 0), one(3, 0)), false}, // whole, and was not there
		{chain(4, one(0, 0), late(3, 0)), true},
		{chain(4, one(3, 0)), false},
		{chain(4, one(3, 0), late(0, 0)), false},
		{chain(4, one(1, 0), one(0, 0)), false}, // another order
		{chain(4, one(0, 0), late(4, 0), late(2, 1)), true},
		{chain(4, one(0, 0), late(2, 0), late(1, 0)), false},
		{chain(4, one(0, 2), late(1, 2)), true}, // sites are not asked
	} {
		if got := layout.Follows(a, k.b); got != k.want || follows(a, k.b) != k.want {
			t.Errorf("%v: %v", k.b, got)
		}
	}
	for _, c := range broken() {
		if layout.Follows(c, chain(9, one(0, 0))) || layout.Follows(chain(1, one(0, 0)), api.Chain{Epoch: 9, Members: c.Members}) && !mayBe(api.Chain{Epoch: 9, Members: c.Members}) {
			t.Errorf("%v", c)
		}
	}
	r := rand.New(rand.NewPCG(82, 1))
	for range 50000 {
		a, b := some(r), some(r)
		if got := layout.Follows(a, b); got != follows(a, b) {
			t.Fatalf("%v, %v: %v", a, b, got)
		}
	}
}

// P8.4, P8.6: whatever becomes of a chain, it may be, follows, and has a head that has all.
func TestLongWays(t *testing.T) {
	r := rand.New(rand.NewPCG(83, 1))
	for range 300 {
		c := some(r)
		for range 60 {
			n, was := r.IntN(7)-1, c
			var got api.Chain
			var e api.Errno
			ready := false
			switch r.IntN(8) {
			case 0:
				got, e = layout.Drop(c, n)
			case 1:
				got, e = layout.DropSite(c, n)
			case 2:
				got, e = layout.Again(c, n)
			case 3, 4:
				got, e = layout.Ready(c, n)
				ready = true
			default:
				got, e = layout.Join(c, one(n, r.IntN(3)))
			}
			if e != api.OK {
				continue
			}
			c = got
			if layout.Check(c) != api.OK || !layout.Whole(c).Has(layout.Head(c)) || ready && c.Epoch != was.Epoch || !ready && !layout.Follows(was, c) {
				t.Fatalf("%v: %v", was, c)
			}
		}
	}
}

// The rule Memory: members that are handed in are neither changed nor handed out, nor is the room behind them.
func TestMemory(t *testing.T) {
	whole := []api.Member{one(0, 0), late(1, 0), one(2, 1), late(3, 2), one(4, 9), one(5, 9)}
	was := slices.Clone(whole)
	c := chain(1, whole[:4]...)
	for name, f := range map[string]func() (api.Chain, api.Errno){
		"First":    func() (api.Chain, api.Errno) { return layout.First(whole[0], whole[2]) },
		"Drop":     func() (api.Chain, api.Errno) { return layout.Drop(c, 0) },
		"DropSite": func() (api.Chain, api.Errno) { return layout.DropSite(c, 2) },
		"Join":     func() (api.Chain, api.Errno) { return layout.Join(c, one(5, 0)) },
		"Again":    func() (api.Chain, api.Errno) { return layout.Again(c, 1) },
		"Ready":    func() (api.Chain, api.Errno) { return layout.Ready(c, 1) },
	} {
		first, e := f()
		second, _ := f()
		if e != api.OK || !equal(first, second) {
			t.Fatalf("%s: %v, %v, %d", name, first, second, e)
		}
		kept := slices.Clone(second.Members)
		first.Members = append(first.Members, one(9, 9))
		for i := range first.Members[:cap(first.Members)] {
			first.Members[:cap(first.Members)][i] = one(9, 9)
		}
		if !slices.Equal(whole, was) || !slices.Equal(second.Members, kept) {
			t.Errorf("%s: %v, %v", name, whole, second)
		}
	}
	unsorted := []api.Member{one(2, 1), one(0, 0), one(4, 9)}
	if _, e := layout.First(unsorted[:2]...); e != api.OK || !slices.Equal(unsorted, []api.Member{one(2, 1), one(0, 0), one(4, 9)}) {
		t.Error(unsorted, e)
	}
}
