package route_test

import (
	"math"
	"math/rand/v2"
	"slices"
	"testing"

	"towline/api"
	"towline/layout"
	"towline/route"
)

// P13.2: the chapter's example.
func TestExample(t *testing.T) {
	c, w := chain(one(0, 0), one(1, 1)), apart(5, 0, 0)
	if n, e := route.Write(c, w, 0); n != 10 || e != api.OK {
		t.Error(n, e)
	}
	if n, e := route.Read(c, w, 1, 1, false, 0); n != 10 || e != api.OK {
		t.Error(n, e)
	}
	if l, e := route.Near(c, w, 1); e != api.OK || !slices.Equal(l, []int{1, 0}) {
		t.Error(l, e)
	}
}

// P13.1: what is ways, and what is not.
func TestCheck(t *testing.T) {
	for _, w := range []api.Ways{{}, apart(5, 9, 20), apart(1000, 1000, 1000), apart(0, 1000, 0), apart(1, 0, 1000)} {
		if e := route.Check(w); e != api.OK {
			t.Errorf("%v: %d", w, e)
		}
	}
	for _, w := range wrong() {
		if e := route.Check(w); e != api.ErrArg {
			t.Errorf("%v: %d", w, e)
		}
		if d, e := route.Direct(w); e != api.ErrArg || d != (api.Ways{}) {
			t.Errorf("%v: %v, %d", w, d, e)
		}
	}
}

// P13.1, P13.4: the least ways, straight or over the third site.
func TestDirect(t *testing.T) {
	for _, k := range []struct{ w, want api.Ways }{
		{apart(5, 9, 20), apart(5, 9, 14)},
		{apart(20, 5, 9), apart(14, 5, 9)},
		{apart(5, 20, 9), apart(5, 14, 9)},
		{apart(5, 9, 14), apart(5, 9, 14)},
		{apart(5, 9, 13), apart(5, 9, 13)},
		{apart(0, 0, 1000), api.Ways{}},
		{apart(1000, 1000, 1000), apart(1000, 1000, 1000)},
		{api.Ways{}, api.Ways{}},
	} {
		if d, e := route.Direct(k.w); e != api.OK || d != k.want {
			t.Errorf("%v: %v, %d", k.w, d, e)
		}
	}
	r := rand.New(rand.NewPCG(130, 1))
	for range 20000 {
		w := someWays(r)
		d, e := route.Direct(w)
		if e != api.OK || route.Check(d) != api.OK {
			t.Fatal(w, d, e)
		}
		for a := range 3 {
			for b := range 3 {
				c := 3 - a - b
				if a == b {
					continue
				}
				if want := min(w[a][b], w[a][c]+w[c][b]); d[a][b] != want || d[a][b] > w[a][b] || d[a][c]+d[c][b] < d[a][b] {
					t.Fatal(w, d)
				}
			}
		}
		if again, _ := route.Direct(d); again != d {
			t.Fatal(d, again)
		}
	}
}

// P13.2, P13.5: who is near, of some chains one by one.
func TestNear(t *testing.T) {
	c := chain(one(3, 0), late(0, 0), one(5, 1), late(4, 1), one(2, 2), one(1, 2))
	for _, k := range []struct {
		w    api.Ways
		from int
		want []int
	}{
		{apart(5, 9, 20), 0, []int{3, 5, 2, 1, 0, 4}},
		{apart(5, 9, 20), 1, []int{5, 3, 2, 1, 4, 0}},
		{apart(5, 9, 20), 2, []int{2, 1, 5, 3, 4, 0}},
		{api.Ways{}, 1, []int{3, 5, 2, 1, 0, 4}},      // all the same: as they stand
		{apart(0, 7, 7), 1, []int{3, 5, 2, 1, 0, 4}},  // no way is no way, own site or not
		{apart(20, 1, 1), 0, []int{3, 2, 1, 5, 0, 4}}, // straight, not over others
	} {
		if l, e := route.Near(c, k.w, k.from); e != api.OK || !slices.Equal(l, k.want) {
			t.Errorf("%v, %d: %v, %d", k.w, k.from, l, e)
		}
	}
}

// P13.2: how far writes and reads go, of one chain.
func TestWriteRead(t *testing.T) {
	c, w := chain(one(0, 0), one(1, 1), late(2, 1), one(3, 2)), apart(5, 9, 20)
	for from, want := range []int{28, 38, 68} {
		if n, e := route.Write(c, w, from); e != api.OK || n != want {
			t.Error(from, n, e)
		}
	}
	for _, k := range []struct {
		from, node int
		tail       bool
		masters    int
		want       int
	}{
		{0, 0, false, 0, 0}, {0, 0, true, 0, 40}, {0, 0, true, 2, 80}, {2, 0, false, 1, 50},
		{1, 2, true, 1, 18}, {2, 3, true, 2, 0}, {2, 3, false, 0, 40}, {0, 3, true, 1, 58},
	} {
		if n, e := route.Read(c, w, k.from, k.node, k.tail, k.masters); e != api.OK || n != k.want {
			t.Errorf("%+v: %d, %d", k, n, e)
		}
	}
	far := chain(one(0, 0), one(1, 2))
	if n, e := route.Write(far, apart(1, 1, 1000), 0); n != 2000 || e != api.OK {
		t.Error("straight, not over others", n, e)
	}
}

// P13.2: whom one asks: for a write who has all, as they stand, else who is near; and again from the first one on.
func TestTries(t *testing.T) {
	c, w := chain(one(3, 0), late(0, 0), one(5, 1), late(4, 1), one(2, 2)), apart(5, 9, 20)
	for _, k := range []struct {
		from  int
		write bool
		many  int
		want  []int
	}{
		{2, true, 0, nil}, {2, false, 0, nil},
		{2, true, 2, []int{3, 5}}, {2, true, 7, []int{3, 5, 2, 3, 5, 2, 3}},
		{2, false, 1, []int{2}}, {2, false, 6, []int{2, 5, 3, 4, 0, 2}},
		{0, false, 5, []int{3, 5, 2, 0, 4}},
	} {
		if l, e := route.Tries(c, w, k.from, k.write, k.many); e != api.OK || !slices.Equal(l, k.want) {
			t.Errorf("%+v: %v, %d", k, l, e)
		}
	}
	for _, many := range []int{math.MinInt, -1, 25, math.MaxInt} {
		for _, write := range []bool{false, true} {
			if l, e := route.Tries(c, w, 0, write, many); e != api.ErrArg || l != nil {
				t.Error(many, l, e)
			}
		}
	}
	if l, e := route.Tries(chain(one(4, 0)), w, 0, false, 24); e != api.OK || !slices.Equal(l, slices.Repeat([]int{4}, 24)) {
		t.Error(l, e)
	}
}

// P13.2, P13.5: all of it, of chains by chance.
func TestChains(t *testing.T) {
	r := rand.New(rand.NewPCG(131, 1))
	for range 20000 {
		c, w, from := some(r), someWays(r), r.IntN(3)
		if layout.Check(c) != api.OK {
			t.Fatal(c)
		}
		want := near(c, w, from)
		l, e := route.Near(c, w, from)
		if e != api.OK || !slices.Equal(l, want) || len(l) != len(c.Members) {
			t.Fatalf("%v, %v, %d: %v, not %v", c, w, from, l, want)
		}
		if n, e := route.Write(c, w, from); e != api.OK || n != write(c.Members, w, from) {
			t.Fatalf("%v, %v, %d: %d", c, w, from, n)
		}
		m, masters, tail := c.Members[r.IntN(len(c.Members))], r.IntN(3), r.IntN(2) == 0
		way := 2*w[from][m.Site] + 2*w[m.Site][masters]
		if tail {
			way += 2 * w[m.Site][c.Members[len(c.Members)-1].Site]
		}
		if n, e := route.Read(c, w, from, m.Node, tail, masters); e != api.OK || n != way {
			t.Fatalf("%v, %v, %d, %d: %d", c, w, from, m.Node, n)
		}
		var whole []int
		for _, m := range c.Members {
			if !m.Fresh {
				whole = append(whole, m.Node)
			}
		}
		for i, ask := range [][]int{want, whole} {
			l, e := route.Tries(c, w, from, i == 1, 24)
			if e != api.OK || !slices.Equal(l, slices.Repeat(ask, 24)[:24]) {
				t.Fatalf("%v, %v, %d: %v", c, w, from, l)
			}
		}
	}
}

// P13.2: which error is the first one, of each subset of what is wrong.
func TestFirstError(t *testing.T) {
	for set := range 1 << 5 {
		c, w, from, node, masters, many := chain(one(0, 0), one(1, 1)), apart(5, 9, 20), 1, 1, 2, 3
		bad := func(i int) bool { return set>>i&1 == 1 }
		if bad(0) {
			c = chain(late(0, 0))
		}
		if bad(1) {
			w[0][1] = 6
		}
		if bad(2) {
			from = 3
		}
		if bad(3) {
			node, many = 2, 25
		}
		if bad(4) {
			masters = -1
		}
		want := api.OK
		switch {
		case bad(0):
			want = api.ErrChain
		case bad(1) || bad(2):
			want = api.ErrArg
		}
		l, e := route.Near(c, w, from)
		n, f := route.Write(c, w, from)
		if e != want || f != want || want != api.OK && (l != nil || n != 0) {
			t.Error(set, l, e, n, f)
		}
		tries := want
		if want == api.OK && bad(3) {
			tries = api.ErrArg
		}
		if l, e := route.Tries(c, w, from, set%2 == 0, many); e != tries || e != api.OK && l != nil {
			t.Error(set, l, e)
		}
		if want == api.OK && (bad(3) || bad(4)) {
			want = api.ErrNode
		}
		if n, e := route.Read(c, w, from, node, true, masters); e != want || e != api.OK && n != 0 {
			t.Error(set, n, e)
		}
	}
}

// P13.2: chains that can't be, what is no ways, no site, no node.
func TestWrong(t *testing.T) {
	c, w := chain(one(0, 0), one(1, 1)), apart(5, 9, 20)
	try := func(c api.Chain, w api.Ways, from int, want api.Errno) {
		t.Helper()
		l, e := route.Near(c, w, from)
		n, f := route.Write(c, w, from)
		m, g := route.Read(c, w, from, 0, true, 0)
		k, h := route.Tries(c, w, from, true, 3)
		if e != want || f != want || g != want || h != want || l != nil || n != 0 || m != 0 || k != nil {
			t.Errorf("%v, %v, %d: %d, %d, %d, %d", c, w, from, e, f, g, h)
		}
	}
	for _, c := range broken() {
		try(c, w, 0, api.ErrChain)
	}
	for _, w := range wrong() {
		try(c, w, 0, api.ErrArg)
	}
	for _, n := range notSites {
		try(c, w, n, api.ErrArg)
		if way, e := route.Read(c, w, 0, 0, true, n); e != api.ErrNode || way != 0 {
			t.Error(n, way, e)
		}
	}
	for _, n := range []int{math.MinInt, -1, 2, 5, 6, 64, math.MaxInt} {
		if way, e := route.Read(c, w, 0, n, false, 0); e != api.ErrNode || way != 0 {
			t.Error(n, way, e)
		}
	}
}

// The rule Memory: chains and members that are handed in stay as they are, the room behind them too.
func TestMemory(t *testing.T) {
	l := []api.Member{one(3, 0), late(0, 0), one(5, 1), one(1, 2), one(9, 9)}
	was := slices.Clone(l)
	c, w := chain(l[:4]...), apart(20, 1, 1)
	route.Near(c, w, 2)
	route.Tries(c, w, 2, true, 9)
	route.Tries(c, w, 2, false, 9)
	free := []api.Member{one(4, 2), one(3, 0), one(5, 1), one(9, 9)}
	a, _, e := route.Best(free[:3], w, 2)
	b, _, _ := route.Best(free[:3], w, 2)
	kept := slices.Clone(b)
	for i := range a[:cap(a)] {
		a[:cap(a)][i] = one(8, 8)
	}
	if e != api.OK || !slices.Equal(l, was) || !slices.Equal(b, kept) || !slices.Equal(free, []api.Member{one(4, 2), one(3, 0), one(5, 1), one(9, 9)}) {
		t.Error(l, b, free, e)
	}
}
