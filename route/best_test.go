package route_test

import (
	"math/rand/v2"
	"slices"
	"testing"

	"towline/api"
	"towline/layout"
	"towline/route"
)

// P13.3: the best order, and the first one of several.
func TestBest(t *testing.T) {
	all := []api.Member{one(2, 2), one(0, 0), one(1, 1), one(5, 0)}
	for _, k := range []struct {
		l    []api.Member
		w    api.Ways
		from int
		want []api.Member
		way  int
	}{
		{all, apart(5, 9, 20), 0, []api.Member{one(0, 0), one(5, 0), one(1, 1), one(2, 2)}, 28},
		{all, apart(5, 9, 20), 2, []api.Member{one(2, 2), one(1, 1), one(0, 0), one(5, 0)}, 28},
		{all, apart(5, 9, 20), 1, []api.Member{one(0, 0), one(5, 0), one(1, 1), one(2, 2)}, 38},
		{all, apart(5, 9, 6), 1, []api.Member{one(1, 1), one(0, 0), one(5, 0), one(2, 2)}, 22},
		{all, apart(9, 5, 6), 1, []api.Member{one(1, 1), one(2, 2), one(0, 0), one(5, 0)}, 22},
		{all, apart(9, 6, 5), 0, []api.Member{one(0, 0), one(5, 0), one(2, 2), one(1, 1)}, 22},
		{all, apart(1, 9, 9), 2, []api.Member{one(2, 2), one(0, 0), one(5, 0), one(1, 1)}, 20},
		{all, api.Ways{}, 1, []api.Member{one(0, 0), one(5, 0), one(1, 1), one(2, 2)}, 0},
		{[]api.Member{one(4, 2)}, apart(5, 9, 20), 0, []api.Member{one(4, 2)}, 40},
		{[]api.Member{one(4, 2), one(3, 0)}, apart(5, 9, 20), 1, []api.Member{one(3, 0), one(4, 2)}, 50},
	} {
		l, way, e := route.Best(k.l, k.w, k.from)
		if e != api.OK || way != k.way || !slices.Equal(l, k.want) {
			t.Errorf("%v, %d: %v, %d, %d", k.w, k.from, l, way, e)
		}
	}
}

// P13.3, P13.6: no order is better, and each one ahead is worse.
func TestBestOfAll(t *testing.T) {
	r := rand.New(rand.NewPCG(132, 1))
	for range 20000 {
		var l []api.Member
		for _, node := range r.Perm(6)[:1+r.IntN(6)] {
			l = append(l, one(node, r.IntN(3)))
		}
		w, from := someWays(r), r.IntN(3)
		c, e := layout.First(l...)
		if e != api.OK {
			t.Fatal(l, e)
		}
		got, way, e := route.Best(l, w, from)
		if e != api.OK {
			t.Fatal(l, e)
		}
		var want []api.Member
		for _, order := range [][]int{{0, 1, 2}, {0, 2, 1}, {1, 0, 2}, {1, 2, 0}, {2, 0, 1}, {2, 1, 0}} {
			var row []api.Member
			for _, site := range order {
				row = append(row, slices.DeleteFunc(slices.Clone(c.Members), func(m api.Member) bool { return m.Site != site })...)
			}
			if write(row, w, from) < way {
				t.Fatalf("%v, %v, %d: %v is better than %v", l, w, from, row, got)
			}
			if want == nil && write(row, w, from) == way {
				want = row
			}
		}
		if !slices.Equal(got, want) {
			t.Fatalf("%v, %v, %d: %v, not %v", l, w, from, got, want)
		}
	}
}

// P13.3: which error is the first one.
func TestBestErrors(t *testing.T) {
	good, w := []api.Member{one(0, 0), one(1, 1)}, apart(5, 9, 20)
	try := func(l []api.Member, w api.Ways, from int, want api.Errno) {
		t.Helper()
		if got, n, e := route.Best(l, w, from); e != want || got != nil || n != 0 {
			t.Errorf("%v, %v, %d: %v, %d, %d", l, w, from, got, n, e)
		}
	}
	for _, l := range [][]api.Member{nil, {}, {late(0, 0)}, {one(0, 0), late(1, 1)}, {one(0, 0), one(0, 1)}, {one(6, 0)}, {one(0, 3)}, make([]api.Member, 5000)} {
		try(l, w, 0, api.ErrChain)
		try(l, apart(5, 9, 1001), 3, api.ErrChain)
	}
	for _, bad := range wrong() {
		try(good, bad, 0, api.ErrArg)
	}
	for _, n := range notSites {
		try(good, w, n, api.ErrArg)
	}
}
