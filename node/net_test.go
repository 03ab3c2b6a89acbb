package node_test

import (
	"fmt"
	"math/rand/v2"
	"slices"
	"testing"

	"towline/api"
	"towline/layout"
	"towline/ledger"
	"towline/shelf"
)

// said is what a node must have from now on: the greatest epoch that it spoke in, and the writes that it answered for.
type said struct {
	epoch  int
	writes []api.Req
}

// net is nodes on disks, masters that know of one ledger at once, clients, and messages on their way.
type net struct {
	*testing.T
	*rand.Rand
	n      [6]*pair
	said   [6]said
	ledger *ledger.Ledger
	way    []api.Msg
	calls  [4]api.Msg // Kind 0: none is on its way
	seqs   [4]int
	passes [4][]byte
	counts map[string]int
}

func newNet(t *testing.T, r *rand.Rand, counts map[string]int) *net {
	t.Helper()
	n := &net{T: t, Rand: r, counts: counts}
	var first []api.Member
	for _, i := range r.Perm(6)[:2+r.IntN(4)] {
		first = append(first, api.Member{Node: i, Site: i / 2})
	}
	n.ledger, _ = ledger.New(first...)
	for i := range n.n {
		n.n[i] = fresh(t, i)
	}
	n.announce()
	return n
}

// announce tells the chain to all nodes.
func (n *net) announce() {
	for i := range n.n {
		n.way = append(n.way, api.Msg{Kind: api.MChain, From: 6, To: i, Chain: n.ledger.Chain()})
	}
}

// apply is that masters agreed on a command.
func (n *net) apply(c api.Command) {
	b, _ := ledger.Put(c)
	if n.ledger.Apply(n.ledger.At()+1, b) == api.OK {
		n.announce()
	}
}

// between is all that may lie on a disk, if the power goes while an effect is kept: none, some first notes, or all of it.
func between(s *shelf.Shelf, era int, f api.Effect) []string {
	out := []string{told(s, era)}
	atOnce := f.Base || f.Fold != 0
	note := func() {
		if !atOnce {
			out = append(out, told(s, era))
		}
	}
	if f.Base {
		s, _ = shelf.From(f.Table)
	}
	if f.Cut >= 0 {
		s.Cut(f.Cut)
		note()
	}
	for _, x := range f.Recs {
		s.Add(x)
		note()
	}
	if f.Fold != 0 {
		s.Settle(f.Fold)
		s.Fold(f.Fold)
	}
	if f.Era != 0 {
		era = f.Era
		note()
	}
	return append(out, told(s, era))
}

// does lets a node do something, in which its power may go.
func (n *net) does(i int, do func() ([]api.Msg, api.Errno)) {
	n.Helper()
	s, era := n.n[i].n.Stored()
	l, e := do()
	n.counts[fmt.Sprint("error ", int(e))]++
	if e == api.ErrDown {
		silent(n.T, n.n[i].n)
		n.n[i].d.Start()
		n.open(i, between(s, era, n.n[i].p.last))
		return
	}
	for _, m := range l {
		n.hears(i, m)
	}
	n.way = append(n.way, l...)
}

// hears notes what a node said, which has to be kept when it is said.
func (n *net) hears(i int, m api.Msg) {
	n.Helper()
	s, _ := n.n[i].n.Stored()
	for _, x := range m.Recs {
		if l, _ := s.Behind(x.Index-1, 1); x.Index > s.Low() && (len(l) != 1 || l[0] != x) {
			n.Fatalf("P19.3: %d sent %v on, and has not kept it", i, x)
		}
	}
	if last, _ := s.Last(); m.Kind == api.MHave && m.Yes && m.Index > last {
		n.Fatalf("P19.3: %d says that it has %d, and has %d", i, m.Index, last)
	}
	if m.Kind == api.MDone && m.Err == api.OK && m.Ver > 0 && m.Value == "" {
		n.said[i].writes = append(n.said[i].writes, m.Req)
	}
	n.said[i].epoch = max(n.said[i].epoch, m.Epoch, m.Cmd.Epoch)
	n.holds(i)
}

// holds checks P19.3: all that it said is kept.
func (n *net) holds(i int) {
	n.Helper()
	s, era := n.n[i].n.Stored()
	if era < n.said[i].epoch {
		n.Fatalf("P19.3: %d spoke in %d, and has kept %d", i, n.said[i].epoch, era)
	}
	l, _ := s.Behind(s.Low(), 100)
	for _, r := range n.said[i].writes {
		inTable := slices.ContainsFunc(s.Table().Done, func(d api.Done) bool { return d.Client == r.Client && d.Seq >= r.Seq })
		if !inTable && !slices.ContainsFunc(l, func(x api.Record) bool { return x.Req == r }) {
			n.Fatalf("P19.3: %d answered %v, and has not kept it", i, r)
		}
	}
}

// open opens a node on its disk, which must have one of these.
func (n *net) open(i int, may []string) {
	n.Helper()
	n.n[i] = open(n.T, i, n.n[i].d)
	if got := storedBy(n.n[i].n); !slices.Contains(may, got) {
		n.Fatalf("P19.3: %d has %s, not one of %q", i, got, may)
	}
	n.holds(i)
	n.counts["opened"]++
}

// crash takes a node's power between two steps.
func (n *net) crash(i int) {
	n.Helper()
	was := storedBy(n.n[i].n)
	n.n[i].d.Crash(n.IntN(60)-5, n.IntN(60)-5)
	n.n[i].d.Start()
	n.open(i, []string{was})
}

// ask lets a client call, or ask once more, a node.
func (n *net) ask(i, to int) {
	if n.calls[i].Kind == 0 {
		n.seqs[i]++
		m := api.Msg{Kind: api.MWrite, From: 9 + i, Req: api.Req{Client: i, Seq: n.seqs[i]}, Key: key(string(rune('a' + n.IntN(4)))), Pass: n.passes[i]}
		if n.IntN(3) > 0 {
			m.Value = fmt.Sprint("c", i, "s", n.seqs[i])
		} else {
			m.Kind, m.Mode, m.Bound = api.MRead, n.IntN(3), n.IntN(4)
		}
		n.calls[i] = m
	}
	m := n.calls[i]
	m.To = to
	n.way = append(n.way, m)
}

// done is that a client is told how its call went.
func (n *net) done(m api.Msg) {
	i := m.Req.Client
	if n.calls[i].Kind == 0 || m.Req != n.calls[i].Req || m.Err >= api.ErrEpoch && m.Err <= api.ErrStale {
		return
	}
	n.counts[fmt.Sprintf("done %d %d", n.calls[i].Kind, int(m.Err))]++
	if m.Err == api.OK {
		n.passes[i] = m.Pass
	}
	n.calls[i] = api.Msg{}
}

// come brings a message to where it goes.
func (n *net) come(m api.Msg) {
	n.Helper()
	switch {
	case m.To < 6:
		n.does(m.To, func() ([]api.Msg, api.Errno) { return n.n[m.To].take(m) })
	case m.To > 8:
		n.done(m)
	case m.Kind == api.MTell:
		n.apply(m.Cmd)
	case m.Kind == api.MSure:
		n.way = append(n.way, api.Msg{Kind: api.MChain, From: m.To, To: m.From, Epoch: m.Epoch, Nonce: m.Nonce, Chain: n.ledger.Chain()})
	}
}

// upset is that a node's power goes, or will, or that masters are told something.
func (n *net) upset(i int) {
	n.Helper()
	c := n.ledger.Chain()
	switch n.IntN(8) {
	case 0, 1:
		n.crash(i)
	case 2, 3, 4:
		n.n[i].arm(1+n.IntN(80), n.IntN(80)-5, n.IntN(80)-5)
	case 5:
		n.apply(api.Command{Kind: api.CDead, Node: i, Epoch: c.Epoch})
	default:
		n.apply(api.Command{Kind: api.CJoin, Node: i, Site: i / 2, Epoch: c.Epoch})
	}
}

// step is one thing that happens.
func (n *net) step() {
	n.Helper()
	i := n.IntN(6)
	switch k := n.IntN(100); {
	case k < 8:
		n.does(i, n.n[i].tick)
	case k < 10:
		n.announce()
	case k < 16:
		n.upset(i)
	case k < 22:
		n.ask(n.IntN(4), i)
	case k < 34:
		n.ask(n.IntN(4), layout.Head(n.ledger.Chain()))
	case len(n.way) > 0:
		at := n.IntN(min(3, len(n.way)))
		m := n.way[at]
		if n.IntN(8) > 0 {
			n.way = slices.Delete(n.way, at, at+1)
		}
		if n.IntN(12) > 0 {
			n.come(m)
		}
	}
	if len(n.way) > 80 {
		n.way = slices.Delete(n.way, 0, 25)
	}
}

// calm is that no power goes, nothing is lost, and time passes: all of the chain have the same then.
func (n *net) calm() {
	n.Helper()
	for i := range n.n {
		n.crash(i)
	}
	for range 8 {
		n.announce()
		for i := range n.n {
			n.does(i, n.n[i].tick)
		}
		for many := 0; len(n.way) > 0; many++ {
			m := n.way[0]
			n.way = n.way[1:]
			n.come(m)
			if many > 5000 {
				n.Fatal("messages without end")
			}
		}
	}
	c := n.ledger.Chain()
	head := n.n[layout.Head(c)].n.State()
	for _, m := range c.Members {
		s := n.n[m.Node].n.State()
		if !s.Whole() || !layout.Same(s.Chain(), c) || fmt.Sprint(s.Shelf().Whole()) != fmt.Sprint(head.Shelf().Whole()) || s.Shelf().Dirty() > 0 {
			n.Fatalf("%d of %v: %v, %v", m.Node, c, s.Chain(), s.Shelf().Whole())
		}
	}
}

// P19.2 to P19.4: whatever is lost, late, doubled, and wherever the power goes.
func TestNets(t *testing.T) {
	counts := map[string]int{}
	for seed := range uint64(40) {
		n := newNet(t, rand.New(rand.NewPCG(seed, 19)), counts)
		for range 2 {
			for range 400 {
				n.step()
			}
			n.calm()
		}
	}
	for name, least := range map[string]int{
		"error 0": 3000, "error 50": 80, "error 150": 100, "error 153": 10, "opened": 500, "done 14 0": 150, "done 15 0": 80,
	} {
		if counts[name] < least {
			t.Errorf("%s: %d", name, counts[name])
		}
	}
}
