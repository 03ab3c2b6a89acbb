package ledger_test

import (
	"math"
	"math/rand/v2"
	"slices"
	"testing"

	"towline/api"
	"towline/layout"
	"towline/ledger"
)

// one is a member; late is one that has not all.
func one(node, site int) api.Member  { return api.Member{Node: node, Site: site} }
func late(node, site int) api.Member { return api.Member{Node: node, Site: site, Fresh: true} }

// put is a command's bytes.
func put(t *testing.T, c api.Command) []byte {
	t.Helper()
	b, e := ledger.Put(c)
	if e != api.OK {
		t.Fatal(c, e)
	}
	return b
}

// first is a ledger of members.
func first(t *testing.T, l ...api.Member) *ledger.Ledger {
	t.Helper()
	g, e := ledger.New(l...)
	if e != api.OK {
		t.Fatal(l, e)
	}
	return g
}

// is checks a ledger's chain and index.
func is(t *testing.T, g *ledger.Ledger, at, epoch int, l ...api.Member) {
	t.Helper()
	if c := g.Chain(); c.Epoch != epoch || !slices.Equal(c.Members, l) || g.At() != at {
		t.Fatalf("%v at %d, not %d, %v at %d", c, g.At(), epoch, l, at)
	}
}

// began checks with which chain an epoch began.
func began(t *testing.T, g *ledger.Ledger, epoch int, l ...api.Member) {
	t.Helper()
	if c, ok := g.Of(epoch); !ok || c.Epoch != epoch || !slices.Equal(c.Members, l) {
		t.Fatalf("%v, %v", c, ok)
	}
}

// P12.2: the chapter's example.
func TestExample(t *testing.T) {
	g := first(t, one(0, 0), one(1, 0))
	is(t, g, 0, 1, one(0, 0), one(1, 0))
	dead := put(t, cmd(api.CDead, 0, 0, 1))
	if e := g.Apply(1, dead); e != api.OK {
		t.Fatal(e)
	}
	is(t, g, 1, 2, one(1, 0))
	if e := g.Apply(2, dead); e != api.ErrEpoch {
		t.Fatal(e)
	}
	is(t, g, 2, 2, one(1, 0))
}

// P12.2: the first chain is layout's, or its error.
func TestNew(t *testing.T) {
	g := first(t, one(4, 2), one(1, 1), one(0, 0), one(2, 1))
	is(t, g, 0, 1, one(0, 0), one(1, 1), one(2, 1), one(4, 2))
	for _, l := range [][]api.Member{nil, {}, {late(0, 0)}, {one(0, 0), one(0, 1)}, {one(6, 0)}, {one(0, 3)}, {one(-1, 0)}, make([]api.Member, 1<<12)} {
		if g, e := ledger.New(l...); e != api.ErrChain || g != nil {
			t.Errorf("%v: %v, %d", l, g, e)
		}
	}
}

// P12.2, P12.3: each kind of command, and the chains with which epochs began.
func TestKinds(t *testing.T) {
	g := first(t, one(0, 0), one(1, 1), one(2, 2))
	for i, c := range []api.Command{
		cmd(api.CJoin, 5, 1, 1), cmd(api.CReady, 5, 0, 2), cmd(api.CAgain, 1, 0, 2), cmd(api.CJoin, 4, 0, 3), cmd(api.CDead, 1, 0, 4), cmd(api.CSite, 0, 2, 5), cmd(api.CReady, 4, 0, 6), cmd(api.CSite, 0, 0, 6),
	} {
		if e := g.Apply(i+1, put(t, c)); e != api.OK {
			t.Fatal(c, e)
		}
	}
	is(t, g, 8, 7, one(5, 1))
	began(t, g, 1, one(0, 0), one(1, 1), one(2, 2))
	began(t, g, 2, one(0, 0), one(1, 1), late(5, 1), one(2, 2)) // as it began, though it was ready later
	began(t, g, 3, one(0, 0), one(1, 1), one(5, 1), one(2, 2))
	began(t, g, 4, one(0, 0), late(4, 0), one(1, 1), one(5, 1), one(2, 2))
	began(t, g, 5, one(0, 0), late(4, 0), one(5, 1), one(2, 2))
	began(t, g, 6, one(0, 0), late(4, 0), one(5, 1))
	began(t, g, 7, one(5, 1))
	for _, epoch := range []int{math.MinInt, -1, 0, 8, 9, 1 << 40, math.MaxInt} {
		if c, ok := g.Of(epoch); ok || c.Epoch != 0 || c.Members != nil {
			t.Error(epoch, c, ok)
		}
	}
}

// P12.2: indices that are not the next one change nothing, whatever else is wrong.
func TestGap(t *testing.T) {
	g := first(t, one(0, 0), one(1, 0))
	good := put(t, cmd(api.CDead, 0, 0, 1))
	for at := range 3 {
		for _, index := range []int{math.MinInt, -1, 0, at - 1, at, at + 2, at + 3, 1 << 40, 1<<40 + 1, math.MaxInt} {
			if index == at+1 {
				continue
			}
			for _, data := range [][]byte{nil, good, {9}} {
				if e := g.Apply(index, data); e != api.ErrGap {
					t.Fatal(index, data, e)
				}
			}
		}
		is(t, g, at, 1, one(0, 0), one(1, 0))
		if e := g.Apply(at+1, nil); e != api.OK {
			t.Fatal(e)
		}
	}
}

// P12.2: a command that comes to nothing is done with: the index goes on, the chain stays.
func TestErrors(t *testing.T) {
	g := first(t, one(0, 1), one(1, 1))
	for i, k := range []struct {
		data  []byte
		errno api.Errno
	}{
		{nil, api.OK},
		{[]byte{}, api.OK},
		{[]byte{0}, api.ErrCommand},
		{[]byte{1, 0, 0}, api.ErrCommand},
		{append(put(t, cmd(api.CDead, 0, 0, 1)), 0), api.ErrCommand},
		{make([]byte, 4000), api.ErrCommand},
		{[]byte{6, 0, 0, 9}, api.ErrCommand}, // ahead of ErrEpoch
		{put(t, cmd(api.CDead, 0, 0, 2)), api.ErrEpoch},
		{put(t, cmd(api.CDead, 5, 0, 1<<40)), api.ErrEpoch}, // ahead of ErrNode
		{put(t, cmd(api.CDead, 5, 0, 1)), api.ErrNode},
		{put(t, cmd(api.CAgain, 5, 0, 1)), api.ErrNode},
		{put(t, cmd(api.CReady, 5, 0, 1)), api.ErrNode},
		{put(t, cmd(api.CReady, 1, 0, 1)), api.ErrNode},
		{put(t, cmd(api.CSite, 0, 0, 1)), api.ErrNode},
		{put(t, cmd(api.CSite, 0, 1, 1)), api.ErrLast},
		{put(t, cmd(api.CJoin, 0, 1, 1)), api.ErrThere},
		{put(t, cmd(api.CJoin, 2, 0, 1)), api.ErrHead},
	} {
		if e := g.Apply(i+1, k.data); e != k.errno {
			t.Errorf("%v: %d, not %d", k.data, e, k.errno)
		}
		is(t, g, i+1, 1, one(0, 1), one(1, 1))
	}
	if _, ok := g.Of(2); ok {
		t.Error("an epoch began")
	}
}

// P12.3: a clone is the same, and goes its own way from then on.
func TestClone(t *testing.T) {
	g := first(t, one(0, 0), one(1, 0), one(2, 0))
	g.Apply(1, put(t, cmd(api.CDead, 0, 0, 1)))
	a, b := g.Clone(), g.Clone()
	is(t, a, 1, 2, one(1, 0), one(2, 0))
	began(t, a, 1, one(0, 0), one(1, 0), one(2, 0))
	if e := a.Apply(2, put(t, cmd(api.CDead, 1, 0, 2))); e != api.OK {
		t.Fatal(e)
	}
	if e := b.Apply(2, put(t, cmd(api.CAgain, 2, 0, 2))); e != api.OK {
		t.Fatal(e)
	}
	if e := g.Apply(2, put(t, cmd(api.CJoin, 0, 0, 2))); e != api.OK {
		t.Fatal(e)
	}
	is(t, a, 2, 3, one(2, 0))
	is(t, b, 2, 3, one(1, 0), one(2, 0))
	is(t, g, 2, 3, one(1, 0), one(2, 0), late(0, 0))
	began(t, a, 3, one(2, 0))
	began(t, b, 3, one(1, 0), one(2, 0))
	began(t, g, 3, one(1, 0), one(2, 0), late(0, 0))
	c := g.Clone()
	c.Apply(3, put(t, cmd(api.CReady, 0, 0, 3)))
	is(t, g, 2, 3, one(1, 0), one(2, 0), late(0, 0))
}

// P12.3: clones of ledgers of each length don't tell epochs of one another.
func TestClonesApart(t *testing.T) {
	g := first(t, one(0, 0), one(1, 0))
	for i := range 20 {
		a, b := g.Clone(), g.Clone()
		for node, x := range []*ledger.Ledger{a, b} {
			if e := x.Apply(i+1, put(t, cmd(api.CDead, node, 0, i+1))); e != api.OK {
				t.Fatal(e)
			}
		}
		if e := g.Apply(i+1, put(t, cmd(api.CAgain, 1, 0, i+1))); e != api.OK {
			t.Fatal(e)
		}
		began(t, a, i+2, one(1, 0))
		began(t, b, i+2, one(0, 0))
		began(t, g, i+2, one(0, 0), one(1, 0))
	}
}

// P12.3: of a ledger that New did not make, and of nil.
func TestObjects(t *testing.T) {
	for _, g := range []*ledger.Ledger{nil, {}} {
		if e := g.Apply(1, nil); e != api.ErrNil {
			t.Error(e)
		}
		if e := g.Apply(-1, []byte{9}); e != api.ErrNil {
			t.Error(e)
		}
		c, ok := g.Of(1)
		if d := g.Chain(); g.At() != 0 || d.Epoch != 0 || d.Members != nil || ok || c.Epoch != 0 || c.Members != nil || g.Clone() != nil {
			t.Error(d, c, ok)
		}
		if c, ok := g.Of(0); ok || c.Members != nil {
			t.Error(c)
		}
	}
}

// scribble writes over a chain that was told, and the room behind it.
func scribble(c api.Chain) {
	for i := range c.Members[:cap(c.Members)] {
		c.Members[:cap(c.Members)][i] = one(9, 9)
	}
}

// The rule Memory: neither members nor bytes that are handed in are kept or changed, and chains that are told are nobody else's.
func TestMemory(t *testing.T) {
	l := []api.Member{one(2, 1), one(0, 0), one(5, 2), one(3, 0)}
	g := first(t, l[:3]...)
	if !slices.Equal(l, []api.Member{one(2, 1), one(0, 0), one(5, 2), one(3, 0)}) {
		t.Error(l)
	}
	for i := range l {
		l[i] = one(9, 9)
	}
	is(t, g, 0, 1, one(0, 0), one(2, 1), one(5, 2))
	data := append(put(t, cmd(api.CDead, 2, 0, 1)), 7)
	if e := g.Apply(1, data[:len(data)-1]); e != api.OK || data[len(data)-1] != 7 {
		t.Error(e, data)
	}
	h := g.Clone()
	for _, x := range []*ledger.Ledger{g, h} {
		for epoch := range 4 {
			c, _ := x.Of(epoch)
			scribble(c)
		}
		scribble(x.Chain())
	}
	for _, x := range []*ledger.Ledger{g, h} {
		is(t, x, 1, 2, one(0, 0), one(5, 2))
		began(t, x, 1, one(0, 0), one(2, 1), one(5, 2))
		began(t, x, 2, one(0, 0), one(5, 2))
	}
}

// plain is a ledger by the chapter's words.
type plain struct {
	at    int
	now   api.Chain
	began map[int]api.Chain
}

// apply is what layout makes of a command, right or wrong.
func (p *plain) apply(index int, c api.Command) api.Errno {
	if index != p.at+1 {
		return api.ErrGap
	}
	p.at = index
	if !mayBe(c) {
		return api.ErrCommand
	}
	if c.Epoch != p.now.Epoch {
		return api.ErrEpoch
	}
	next, e := [...]func() (api.Chain, api.Errno){
		1: func() (api.Chain, api.Errno) { return layout.Drop(p.now, c.Node) },
		2: func() (api.Chain, api.Errno) { return layout.Join(p.now, one(c.Node, c.Site)) },
		3: func() (api.Chain, api.Errno) { return layout.Again(p.now, c.Node) },
		4: func() (api.Chain, api.Errno) { return layout.Ready(p.now, c.Node) },
		5: func() (api.Chain, api.Errno) { return layout.DropSite(p.now, c.Site) },
	}[c.Kind]()
	if e != api.OK {
		return e
	}
	p.now = next
	if _, ok := p.began[next.Epoch]; !ok {
		p.began[next.Epoch] = next
	}
	return api.OK
}

// anyCommand is a command about a chain; now and then one that can't be, or of another epoch.
func anyCommand(r *rand.Rand, epoch int) api.Command {
	c := cmd(1+r.IntN(5), r.IntN(6), r.IntN(3), max(1, epoch-r.IntN(12)/11))
	if c.Kind == api.CSite {
		c.Node = 0
		if r.IntN(3) > 0 {
			c = cmd(api.CJoin, r.IntN(6), c.Site, epoch)
		}
	} else if c.Kind != api.CJoin {
		c.Site = 0
	}
	if r.IntN(20) == 0 {
		c.Node, c.Site = r.IntN(8), r.IntN(5)
	}
	return c
}

// bytesOf is a command's bytes, may it be or not.
func bytesOf(c api.Command) []byte { return numbers(c.Kind, c.Node, c.Site, c.Epoch) }

// P12.2 to P12.6: on long ways a ledger is what the chapter's words make of it; each epoch's chain follows the one ahead; the same commands make the same.
func TestLongWays(t *testing.T) {
	r := rand.New(rand.NewPCG(121, 1))
	for range 300 {
		members := []api.Member{one(0, r.IntN(3)), one(1, r.IntN(3)), one(2, r.IntN(3))}[:1+r.IntN(3)]
		g, h := first(t, members...), first(t, members...)
		p := &plain{now: g.Chain(), began: map[int]api.Chain{1: g.Chain()}}
		for i := range 80 {
			c := anyCommand(r, p.now.Epoch)
			was := p.now
			want := p.apply(i+1, c)
			if e := g.Apply(i+1, bytesOf(c)); e != want || !layout.Same(g.Chain(), p.now) || g.At() != i+1 {
				t.Fatalf("%+v of %v: %d, %v, not %d, %v", c, was, e, g.Chain(), want, p.now)
			}
			if want == api.OK && (p.now.Epoch < was.Epoch || p.now.Epoch > was.Epoch && !layout.Follows(was, p.now)) {
				t.Fatal(was, p.now)
			}
			if want == api.OK && p.now.Epoch > was.Epoch && g.Clone().Apply(i+2, bytesOf(c)) != api.ErrEpoch {
				t.Fatal("P12.5: once more", c)
			}
			h.Apply(i+1, bytesOf(c))
			if r.IntN(20) == 0 {
				h = h.Clone()
			}
		}
		for epoch := -1; epoch <= p.now.Epoch+2; epoch++ {
			want, there := p.began[epoch]
			a, ok := g.Of(epoch)
			b, same := h.Of(epoch)
			if ok != there || same != there || !layout.Same(a, want) || !layout.Same(b, want) || there != (epoch >= 1 && epoch <= p.now.Epoch) {
				t.Fatalf("%d: %v, %v, not %v", epoch, a, b, want)
			}
			// Nodes that were made ready meanwhile were there already: whoever is whole was there.
			if before, ok := g.Of(epoch - 1); there && ok && !layout.Follows(before, a) {
				t.Fatalf("P12.4: %v does not follow %v", a, before)
			}
		}
		if !layout.Same(g.Chain(), h.Chain()) || g.At() != h.At() {
			t.Fatal("P12.6", g.Chain(), h.Chain())
		}
	}
}
