package chain_test

import (
	"fmt"
	"math/rand/v2"
	"slices"
	"testing"

	"towline/api"
	"towline/layout"
	"towline/ledger"
	"towline/proto"
	"towline/shelf"
)

// asker is a client: one call at a time, a session's pass, and what it was told in it.
type asker struct {
	seq  int
	call api.Msg // Kind 0: none
	need int     // what a read has to be told, at least
	pass []byte
	told map[api.Key]int
}

// cellAt is a key at a version.
type cellAt struct {
	key api.Key
	ver int
}

// net is nodes, masters that know of one ledger at once, clients, and messages on their way.
type net struct {
	*testing.T
	*rand.Rand
	n         [6]*pair
	ledger    *ledger.Ledger
	way       []api.Msg
	clients   [4]asker
	log       []api.Record      // what was committed anywhere, from index 1 on
	tables    []string          // what these make, from 0 on, as bytes
	sum       *shelf.Shelf      // the last of these
	values    map[cellAt]string // of what was committed
	places    map[api.Req]int
	committed map[int]int     // up to where, by epochs of who committed it
	answered  map[api.Key]int // the greatest version that a call was answered with, but for reads that may be behind
	written   map[api.Key]int // the same, of writes alone
	counts    map[string]int
}

func newNet(t *testing.T, r *rand.Rand, counts map[string]int) *net {
	n := &net{T: t, Rand: r, sum: shelf.New(), values: map[cellAt]string{}, places: map[api.Req]int{}, committed: map[int]int{},
		answered: map[api.Key]int{}, written: map[api.Key]int{}, counts: counts}
	n.tables = []string{onShelf(n.sum)}
	var first []api.Member
	for _, i := range r.Perm(6)[:1+r.IntN(5)] {
		first = append(first, api.Member{Node: i, Site: home(i)})
	}
	n.ledger, _ = ledger.New(first...)
	for i := range n.n {
		n.n[i] = pairOf(t, i, shelf.New(), 0)
	}
	for i := range n.clients {
		n.clients[i].told = map[api.Key]int{}
	}
	n.announce()
	return n
}

func home(node int) int { return node / 2 }

// announce tells the chain to all nodes.
func (n *net) announce() {
	from := 6 + n.IntN(3)
	for i := range n.n {
		n.way = append(n.way, api.Msg{Kind: api.MChain, From: from, To: i, Chain: n.ledger.Chain()})
	}
}

// apply is that masters agreed on a command.
func (n *net) apply(c api.Command) {
	b, e := ledger.Put(c)
	if e != api.OK {
		n.Fatal(c, e)
	}
	if n.ledger.Apply(n.ledger.At()+1, b) == api.OK {
		n.counts[fmt.Sprint("command ", c.Kind)]++
		n.announce()
	}
}

// crash makes a node anew of what was kept.
func (n *net) crash(i int) {
	n.n[i] = pairOf(n.T, i, n.n[i].kept, n.n[i].era)
	n.counts["crash"]++
}

// come brings a message to where it goes.
func (n *net) come(m api.Msg) {
	n.Helper()
	switch {
	case m.To < 6:
		f := n.n[m.To].take(m)
		count(n.counts, f)
		n.said(m.To, f)
	case m.To > 8:
		n.done(m)
	case m.Kind == api.MTell:
		n.apply(m.Cmd)
	case m.Kind == api.MSure:
		n.way = append(n.way, api.Msg{Kind: api.MChain, From: m.To, To: m.From, Epoch: m.Epoch, Nonce: m.Nonce, Chain: n.ledger.Chain()})
	}
}

// said sends what a node sent, and looks at what it is now.
func (n *net) said(i int, f api.Effect) {
	n.Helper()
	for _, m := range f.Send {
		if e := proto.Check(m); e != api.OK {
			n.Fatalf("no message: %+v", m)
		}
		n.way = append(n.way, m)
	}
	if f.Err == api.OK {
		n.commits(i)
		n.down(i)
	}
}

// commits is that no two nodes commit unlike records at one place, and P18.6: that a request has one place.
func (n *net) commits(i int) {
	n.Helper()
	s := n.n[i].s.Shelf()
	recs, _ := s.Behind(s.Low(), s.Commit()-s.Low())
	for _, x := range recs {
		if x.Index <= len(n.log) {
			if n.log[x.Index-1] != x {
				n.Fatalf("%d committed %v, not %v", i, x, n.log[x.Index-1])
			}
			continue
		}
		if at, there := n.places[x.Req]; there {
			n.Fatalf("P18.6: %v at %d, and at %d", x.Req, at, x.Index)
		}
		n.places[x.Req] = x.Index
		n.log = append(n.log, x)
		n.values[cellAt{x.Key, x.Ver}] = x.Value
		if n.sum.Add(x) != api.OK {
			n.Fatalf("%v can't stand there", x)
		}
		n.sum.Settle(x.Index)
		n.sum.Fold(x.Index)
		n.tables = append(n.tables, onShelf(n.sum))
	}
	if s.Low() >= len(n.tables) || string(proto.PutTable(nil, s.Table())) != n.tables[s.Low()] {
		n.Fatalf("%d has a table that no records made: %v", i, s.Table())
	}
	epoch := n.n[i].s.Chain().Epoch
	n.committed[epoch] = max(n.committed[epoch], s.Commit())
}

// down is P18.5: a whole node has what whole ones of its epoch behind it have, and what was committed in that, and ahead of it.
func (n *net) down(i int) {
	n.Helper()
	c := n.n[i].s.Chain()
	if !n.n[i].s.Whole() {
		return
	}
	place := layout.Place(c, i)
	for at, m := range c.Members {
		if y := n.n[m.Node].s; y.Chain().Epoch == c.Epoch && y.Whole() {
			ahead, behind := n.n[c.Members[min(at, place)].Node], n.n[c.Members[max(at, place)].Node]
			if !hasAll(ahead.s.Shelf(), records(behind.s.Shelf())) {
				n.Fatalf("P18.5: %d has not all that %d has", ahead.p.id, behind.p.id)
			}
			n.hasCommitted(m.Node, c.Epoch)
		}
	}
}

// hasCommitted checks that a whole node has all that was committed.
func (n *net) hasCommitted(i, now int) {
	n.Helper()
	s := n.n[i].s.Shelf()
	for epoch, index := range n.committed {
		if epoch <= now && !hasAll(s, n.log[min(s.Low(), index):index]) {
			n.Fatalf("P18.5: %d, whole in %d, has not all that was committed in %d", i, now, epoch)
		}
	}
}

func records(s *shelf.Shelf) []api.Record {
	l, _ := s.Behind(s.Low(), 100)
	return l
}

// hasAll tells whether a shelf has records, or a table above them.
func hasAll(s *shelf.Shelf, l []api.Record) bool {
	own := records(s)
	for _, x := range l {
		if at := x.Index - s.Low() - 1; at >= 0 && (at >= len(own) || own[at] != x) {
			return false
		}
	}
	return true
}

// ask lets a client call, or ask once more, somebody.
func (n *net) ask(i, to int) {
	c := &n.clients[i]
	if c.call.Kind == 0 {
		c.seq++
		k := key(someKeys[n.IntN(4)])
		c.call = api.Msg{Kind: api.MWrite, From: 9 + i, Req: api.Req{Client: i, Seq: c.seq}, Key: k, Pass: c.pass}
		if n.IntN(2) == 0 {
			c.call.Value = fmt.Sprint("c", i, "s", c.seq)
		} else {
			c.call.Kind, c.call.Mode, c.call.Bound = api.MRead, n.IntN(3), n.IntN(4)
			c.need = []int{n.answered[k], n.written[k] - c.call.Bound, c.told[k]}[c.call.Mode]
		}
	}
	m := c.call
	m.To = to
	n.way = append(n.way, m)
}

// done is that a client is told how its call went.
func (n *net) done(m api.Msg) {
	n.Helper()
	c := &n.clients[m.Req.Client]
	if m.Kind != api.MDone || m.To != 9+m.Req.Client {
		n.Fatal(m)
	}
	if m.Err == api.OK {
		n.answers(m)
	}
	if c.call.Kind == 0 || m.Req.Seq != c.seq {
		return
	}
	n.counts[fmt.Sprintf("done %d %d %d", c.call.Kind, c.call.Mode, m.Err)]++
	switch m.Err {
	case api.ErrHead, api.ErrWait, api.ErrStale, api.ErrEpoch:
		return
	case api.OK:
		k := c.call.Key
		if m.Ver < c.need && c.call.Kind == api.MRead {
			n.Fatalf("a read by %d of mode %d is told %d, not %d", c.call.Bound, c.call.Mode, m.Ver, c.need)
		}
		if c.call.Kind == api.MWrite {
			n.written[k] = max(n.written[k], m.Ver)
		}
		if c.call.Kind == api.MWrite || c.call.Mode == api.Strong {
			n.answered[k] = max(n.answered[k], m.Ver)
		}
		c.pass, c.told[k] = m.Pass, max(c.told[k], m.Ver)
	}
	c.call = api.Msg{}
}

// answers is P18.7: what was answered is committed.
func (n *net) answers(m api.Msg) {
	n.Helper()
	c := n.clients[m.Req.Client]
	if m.Value != "" || m.Ver == 0 {
		if c.call.Kind == api.MRead && c.seq == m.Req.Seq && n.values[cellAt{c.call.Key, m.Ver}] != m.Value {
			n.Fatalf("P18.7: %v was told, and is not committed", m)
		}
		return
	}
	at := n.places[m.Req]
	if at == 0 || n.log[at-1].Ver != m.Ver {
		n.Fatalf("P18.7: %v was answered, and is not committed", m)
	}
}

// step is one thing that happens; so many of twelve messages are lost.
func (n *net) step(lost int) {
	n.Helper()
	i := n.IntN(6)
	switch k := n.IntN(100); {
	case k < 8:
		n.said(i, n.n[i].tick())
	case k < 10:
		n.announce()
	case k < 14:
		n.upset(i)
	case k < 22:
		n.ask(n.IntN(4), n.IntN(6))
	case k < 32:
		n.ask(n.IntN(4), layout.Head(n.ledger.Chain()))
	case len(n.way) > 0:
		at := 0
		if n.IntN(3) == 0 {
			at = n.IntN(len(n.way))
		}
		m := n.way[at]
		// Now and then it is doubled.
		if n.IntN(8) > 0 {
			n.way = slices.Delete(n.way, at, at+1)
		}
		if n.IntN(12) >= lost {
			n.come(m)
		}
	}
	if len(n.way) > 80 {
		n.way = slices.Delete(n.way, 0, 25)
	}
}

// upset is that somebody crashes, is told as dead, or joins.
func (n *net) upset(i int) {
	c := n.ledger.Chain()
	switch n.IntN(5) {
	case 0, 1:
		n.crash(i)
	case 2:
		n.apply(api.Command{Kind: api.CDead, Node: i, Epoch: c.Epoch})
	case 3:
		n.apply(api.Command{Kind: api.CJoin, Node: i, Site: home(i), Epoch: c.Epoch})
	case 4:
		if n.IntN(3) == 0 {
			n.apply(api.Command{Kind: api.CSite, Site: n.IntN(3), Epoch: c.Epoch})
		}
	}
}

// deliver lets all messages come, in order.
func (n *net) deliver() {
	n.Helper()
	for many := 0; len(n.way) > 0; many++ {
		m := n.way[0]
		n.way = n.way[1:]
		n.come(m)
		if many > 5000 {
			n.Fatal("messages without end")
		}
	}
}

// calm is P18.8: nothing is lost, and time passes; in the end all have, and committed, what the head has, and calls are answered.
func (n *net) calm() {
	n.Helper()
	n.deliver()
	for range 8 {
		n.announce()
		for i := range n.n {
			n.said(i, n.n[i].tick())
		}
		n.deliver()
	}
	n.level()
	for i := range n.clients {
		c := &n.clients[i]
		for range 3 {
			n.ask(i, layout.Head(n.ledger.Chain()))
			n.deliver()
		}
		if c.call.Kind != 0 {
			n.Fatalf("P18.8: %v is not answered", c.call)
		}
	}
	n.level()
}

// level checks that all nodes of the chain have, and committed, what the head has.
func (n *net) level() {
	n.Helper()
	c := n.ledger.Chain()
	head := n.n[c.Members[0].Node].s.Shelf()
	last, _ := head.Last()
	for _, m := range c.Members {
		s := n.n[m.Node].s
		on := s.Shelf()
		own, _ := on.Last()
		if m.Fresh || !s.Whole() || !layout.Same(s.Chain(), c) || own != last || on.Commit() != last || fmt.Sprint(on.Whole()) != fmt.Sprint(head.Whole()) {
			n.Fatalf("P18.8: %d of %v: %v, has %d of %d, committed %d", m.Node, c, s.Chain(), own, last, on.Commit())
		}
	}
}

// P18.4 to P18.9: whatever is lost, late, doubled, whoever crashes, and whatever becomes of the chain.
func TestNets(t *testing.T) {
	counts := map[string]int{}
	for seed := range uint64(60) {
		n := newNet(t, rand.New(rand.NewPCG(seed, 185)), counts)
		for part := range 2 {
			for range 500 {
				n.step(n.IntN(2) + 2*part)
			}
			n.calm()
		}
		counts["committed"] += len(n.log)
		counts["epochs"] += n.ledger.Chain().Epoch
	}
	for name, least := range map[string]int{
		"crash": 300, "command 1": 50, "command 2": 50, "command 3": 50, "command 4": 50, "command 5": 10, "epochs": 200, "committed": 500, "fold": 30,
		"done 14 0 0": 500, "done 15 0 0": 100, "done 15 1 0": 100, "done 15 2 0": 100, "error 150": 300, "sends 10": 3,
	} {
		if counts[name] < least {
			t.Errorf("%s: %d", name, counts[name])
		}
	}
}
