package chain_test

import (
	"fmt"
	"reflect"
	"slices"
	"strings"
	"testing"

	"towline/api"
	"towline/chain"
	"towline/layout"
	"towline/pass"
	"towline/proto"
	"towline/shelf"
)

const secret = "0123456789abcdef"

func key(s string) api.Key {
	var k api.Key
	copy(k[:], s)
	return k
}

// plain is a node by the chapter's words, one behind the other.
type plain struct {
	id     int
	shelf  *shelf.Shelf
	era    int
	chain  api.Chain
	synced bool
	has    map[int]bool // the index up to which the one next has all; empty: not known
	writes []waits
	reads  []waits
	nonce  int
	out    api.Effect
}

// waits is a write or a read that does so.
type waits struct {
	req   api.Req
	key   api.Key
	seen  []api.Seen
	nonce int
	fixed bool
	ver   int
	value string
}

func plainOf(id int, s *shelf.Shelf, era int) *plain {
	return &plain{id: id, shelf: s.Clone(), era: era}
}

func (p *plain) place() int { return layout.Place(p.chain, p.id) }

func (p *plain) freshThere() bool { return p.place() >= 0 && p.chain.Members[p.place()].Fresh }

func (p *plain) whole() bool { return p.place() >= 0 && (!p.freshThere() || p.synced) }

func (p *plain) beside(by int) int {
	if at := p.place() + by; p.place() >= 0 && at >= 0 && at < len(p.chain.Members) {
		return p.chain.Members[at].Node
	}
	return -1
}

func (p *plain) head() bool { return p.place() == 0 }

func (p *plain) tail() bool { return p.place() >= 0 && p.place() == len(p.chain.Members)-1 }

func (p *plain) last() int {
	index, _ := p.shelf.Last()
	return index
}

func (p *plain) send(m api.Msg) {
	m.From = p.id
	p.out.Send = append(p.out.Send, m)
}

func (p *plain) masters(m api.Msg) {
	for to := 6; to <= 8; to++ {
		m.To = to
		p.send(m)
	}
}

func (p *plain) refuse(r api.Req, e api.Errno) {
	p.send(api.Msg{Kind: 16, To: 9 + r.Client, Req: r, Err: e, Chain: copyChain(p.chain)})
}

func copyChain(c api.Chain) api.Chain {
	return api.Chain{Epoch: c.Epoch, Members: slices.Clone(c.Members)}
}

func (p *plain) answer(w waits, ver int, value string) {
	seen, e := pass.See(w.seen, w.key, ver)
	if e != api.OK {
		p.refuse(w.req, e)
		return
	}
	b, _ := pass.Make([]byte(secret), seen...)
	p.send(api.Msg{Kind: 16, To: 9 + w.req.Client, Req: w.req, Ver: ver, Value: value, Pass: b, Chain: copyChain(p.chain)})
}

func (p *plain) feed() {
	if !p.whole() || p.beside(1) < 0 {
		return
	}
	prev := p.last()
	for n := range p.has {
		prev = n
	}
	if prev < p.shelf.Low() {
		p.send(api.Msg{Kind: 10, To: p.beside(1), Epoch: p.chain.Epoch, Table: p.shelf.Table()})
		return
	}
	epoch, _ := p.shelf.Epoch(prev)
	recs, _ := p.shelf.Behind(prev, 4)
	p.send(api.Msg{Kind: 8, To: p.beside(1), Epoch: p.chain.Epoch, Index: p.last(), Prev: prev, Last: epoch, Recs: recs, Commit: p.shelf.Commit()})
}

func (p *plain) report() {
	if p.whole() && p.beside(-1) >= 0 {
		p.send(api.Msg{Kind: 9, To: p.beside(-1), Epoch: p.chain.Epoch, Commit: p.shelf.Commit()})
	}
}

func (p *plain) settle(index int) {
	if index <= p.shelf.Commit() || index > p.last() {
		return
	}
	p.shelf.Settle(index)
	p.report()
	var still []waits
	for _, w := range p.writes {
		if ver, committed := p.shelf.Known(w.req); committed {
			p.answer(w, ver, "")
		} else {
			still = append(still, w)
		}
	}
	p.writes = still
}

func (p *plain) tell(kind, epoch int) {
	p.masters(api.Msg{Kind: 5, Cmd: api.Command{Kind: kind, Node: p.id, Epoch: epoch}})
}

func (p *plain) pursue(w waits) {
	if w.fixed {
		p.masters(api.Msg{Kind: 6, Epoch: p.chain.Epoch, Nonce: w.nonce})
	} else {
		p.send(api.Msg{Kind: 12, To: p.chain.Members[len(p.chain.Members)-1].Node, Epoch: p.chain.Epoch, Nonce: w.nonce, Key: w.key})
	}
}

// step does something, and folds behind it.
func (p *plain) step(do func() api.Errno) api.Effect {
	p.out = api.Effect{Cut: -1}
	was := p.shelf.Commit()
	if e := do(); e != api.OK {
		return api.Effect{Err: e, Cut: -1}
	}
	if low := p.shelf.Low(); p.last()-low >= 16 && was > low {
		p.shelf.Fold(was)
		p.out.Fold = was
	}
	return p.out
}

func (p *plain) tick() api.Effect {
	return p.step(func() api.Errno {
		if p.chain.Epoch == 0 {
			if p.era > 0 {
				p.tell(3, p.era)
			}
		}
		if p.whole() {
			p.feed()
			p.report()
			if p.freshThere() {
				p.tell(4, p.chain.Epoch)
			}
		}
		for _, w := range p.reads {
			p.pursue(w)
		}
		return api.OK
	})
}

func (p *plain) take(m api.Msg) api.Effect {
	return p.step(func() api.Errno {
		if proto.Check(m) != api.OK || m.To != p.id {
			return api.ErrMsg
		}
		switch m.Kind {
		case api.MChain:
			return p.takeChain(m)
		case api.MWrite, api.MRead:
			return p.takeCall(m)
		case api.MPut, api.MBase, api.MHave, api.MAck, api.MAsk, api.MVer:
			return p.takeAlong(m)
		}
		return api.ErrMsg
	})
}

func (p *plain) takeChain(m api.Msg) api.Errno {
	if m.From < 6 || m.From > 8 {
		return api.ErrMsg
	}
	if m.Nonce != 0 && m.Epoch == p.chain.Epoch {
		for i, w := range p.reads {
			if w.nonce == m.Nonce && w.fixed {
				p.reads = slices.Delete(slices.Clone(p.reads), i, i+1)
				if m.Chain.Epoch == p.chain.Epoch && p.whole() {
					p.answer(w, w.ver, w.value)
				} else {
					p.refuse(w.req, api.ErrStale)
				}
				break
			}
		}
	}
	if m.Chain.Epoch > p.era {
		for _, w := range p.reads {
			p.refuse(w.req, api.ErrStale)
		}
		p.reads = nil
		p.era, p.out.Era = m.Chain.Epoch, m.Chain.Epoch
		p.chain = copyChain(m.Chain)
		p.synced = false
		p.has = nil
		if !p.head() {
			p.writes = nil
		}
		if p.whole() {
			if p.tail() {
				p.settle(p.last())
			}
			p.feed()
		}
		return api.OK
	}
	if m.Chain.Epoch != 0 && m.Chain.Epoch == p.chain.Epoch && nodes(m.Chain) == nodes(p.chain) {
		for i, a := range p.chain.Members {
			for _, b := range m.Chain.Members {
				if a.Node == b.Node && !b.Fresh {
					p.chain.Members[i].Fresh = false
				}
			}
		}
	}
	return api.OK
}

// nodes is who stands in a chain, by rising numbers.
func nodes(c api.Chain) string {
	var l []int
	for _, m := range c.Members {
		l = append(l, m.Node)
	}
	slices.Sort(l)
	return fmt.Sprint(l)
}

func (p *plain) takeCall(m api.Msg) api.Errno {
	if m.From != 9+m.Req.Client {
		return api.ErrMsg
	}
	seen, e := pass.Read([]byte(secret), m.Pass)
	if e != api.OK {
		p.refuse(m.Req, e)
		return api.OK
	}
	w := waits{req: m.Req, key: m.Key, seen: seen}
	if m.Kind == api.MWrite {
		p.write(w, m.Value)
	} else {
		p.read(w, m.Mode, m.Bound)
	}
	return api.OK
}

// without is all that wait but a request's.
func without(l []waits, r api.Req) []waits {
	var out []waits
	for _, w := range l {
		if w.req != r {
			out = append(out, w)
		}
	}
	return out
}

func (p *plain) write(w waits, value string) {
	if !p.head() {
		p.refuse(w.req, api.ErrHead)
		return
	}
	if ver, committed := p.shelf.Known(w.req); ver > 0 {
		if committed {
			p.answer(w, ver, "")
		} else {
			p.writes = append(without(p.writes, w.req), w)
		}
		return
	}
	if len(p.writes) >= 12 {
		p.refuse(w.req, api.ErrFull)
		return
	}
	if _, e := pass.See(w.seen, w.key, 1); e != api.OK {
		p.refuse(w.req, e)
		return
	}
	x, e := p.shelf.Next(p.chain.Epoch, w.key, value, w.req)
	if e != api.OK {
		p.refuse(w.req, e)
		return
	}
	if e := p.shelf.Add(x); e != api.OK {
		p.refuse(w.req, e)
		return
	}
	p.out.Recs = []api.Record{x}
	p.writes = append(without(p.writes, w.req), w)
	if p.tail() {
		p.settle(p.last())
	} else {
		p.feed()
	}
}

func (p *plain) read(w waits, mode, bound int) {
	if mode > 2 {
		p.refuse(w.req, api.ErrArg)
		return
	}
	clean, top := p.shelf.Clean(w.key), p.shelf.Top(w.key)
	floor := 0
	for _, s := range w.seen {
		if s.Key == w.key {
			floor = s.Ver
		}
	}
	if mode == 2 && clean.Ver >= floor {
		p.answer(w, clean.Ver, clean.Value)
		return
	}
	p.reads = without(p.reads, w.req)
	if !p.whole() {
		p.refuse(w.req, api.ErrWait)
		return
	}
	if len(p.reads) >= 12 || p.nonce == 1<<40 {
		p.refuse(w.req, api.ErrFull)
		return
	}
	p.nonce++
	w.nonce = p.nonce
	if top.Ver == clean.Ver || mode == 1 && top.Ver-clean.Ver <= bound {
		w.fixed, w.ver, w.value = true, clean.Ver, clean.Value
	}
	p.reads = append(p.reads, w)
	p.pursue(w)
}

func (p *plain) takeAlong(m api.Msg) api.Errno {
	if m.Epoch != p.chain.Epoch {
		return api.ErrEpoch
	}
	right := false
	switch m.Kind {
	case api.MPut, api.MBase:
		right = m.From == p.beside(-1)
	case api.MHave, api.MAck:
		right = m.From == p.beside(1)
	case api.MAsk:
		right = p.tail() && p.whole() && layout.Place(p.chain, m.From) >= 0
	case api.MVer:
		right = len(p.chain.Members) > 0 && p.chain.Members[len(p.chain.Members)-1].Node == m.From
	}
	if !right {
		return api.ErrStale
	}
	switch m.Kind {
	case api.MPut:
		return p.put(m)
	case api.MBase:
		p.base(m)
	case api.MHave:
		return p.have(m)
	case api.MAck:
		if p.whole() {
			p.settle(min(m.Commit, p.last()))
		}
	case api.MAsk:
		p.send(api.Msg{Kind: 13, To: m.From, Epoch: p.chain.Epoch, Nonce: m.Nonce, Ver: p.shelf.Clean(m.Key).Ver})
	case api.MVer:
		p.ver(m)
	}
	return api.OK
}

func (p *plain) fits(index, epoch int) bool {
	if index < p.shelf.Low() {
		return true
	}
	e, ok := p.shelf.Epoch(index)
	return ok && e == epoch
}

func (p *plain) says(m api.Msg, index int, yes bool) {
	p.send(api.Msg{Kind: 11, To: m.From, Epoch: p.chain.Epoch, Index: index, Yes: yes})
}

func (p *plain) put(m api.Msg) api.Errno {
	for i, x := range m.Recs {
		if x.Index != m.Prev+i+1 {
			return api.ErrStale
		}
	}
	if !p.fits(m.Prev, m.Last) {
		p.says(m, p.shelf.Commit(), false)
		return api.OK
	}
	top := m.Prev
	for _, x := range m.Recs {
		if p.fits(x.Index, x.Epoch) {
			top = x.Index
			continue
		}
		if x.Index <= p.last() {
			if x.Index <= p.shelf.Commit() {
				break
			}
			p.shelf.Cut(x.Index - 1)
			p.out.Cut = x.Index - 1
		}
		if p.shelf.Add(x) != api.OK {
			break
		}
		p.out.Recs = append(p.out.Recs, x)
		top = x.Index
	}
	if !p.whole() && top >= m.Index {
		p.synced = true
		if p.last() > top && p.last() > p.shelf.Commit() {
			p.shelf.Cut(max(top, p.shelf.Commit()))
			p.out.Cut = p.last()
		}
		if p.freshThere() {
			p.tell(4, p.chain.Epoch)
		}
		p.feed()
	}
	if p.tail() {
		p.settle(min(top, p.last()))
	}
	p.settle(min(m.Commit, top, p.last()))
	p.says(m, top, true)
	if len(p.out.Recs) > 0 {
		p.feed()
	}
	return api.OK
}

func (p *plain) base(m api.Msg) {
	if m.Table.Index <= p.shelf.Commit() {
		p.says(m, p.shelf.Commit(), false)
		return
	}
	if p.fits(m.Table.Index, m.Table.Epoch) {
		p.settle(m.Table.Index)
	} else {
		p.shelf, _ = shelf.From(m.Table)
		p.out.Base = true
		p.out.Table = p.shelf.Table()
	}
	p.says(m, m.Table.Index, true)
}

func (p *plain) have(m api.Msg) api.Errno {
	if m.Index > p.last() {
		return api.ErrStale
	}
	above := true
	for n := range p.has {
		above = m.Index > n
	}
	was := p.has
	if !m.Yes || above {
		p.has = map[int]bool{m.Index: true}
	}
	news := len(was) == 0
	known := 0
	for n := range p.has {
		known = n
		news = news || !was[n]
	}
	if news && (known < p.last() || !m.Yes) {
		p.feed()
	}
	return api.OK
}

func (p *plain) ver(m api.Msg) {
	for i, w := range p.reads {
		if w.nonce != m.Nonce || w.fixed {
			continue
		}
		value, ok := p.shelf.Of(w.key, m.Ver)
		if !ok {
			p.reads = without(p.reads, w.req)
			p.refuse(w.req, api.ErrWait)
			return
		}
		p.reads[i].fixed, p.reads[i].ver, p.reads[i].value = true, m.Ver, value
		p.pursue(p.reads[i])
		return
	}
}

// onShelf is all that a shelf has, but for what is committed, as bytes.
func onShelf(s *shelf.Shelf) string {
	b := proto.PutTable(nil, s.Table())
	l, _ := s.Behind(s.Low(), 100)
	for _, x := range l {
		b = proto.PutRecord(b, x)
	}
	return string(b)
}

func (p *plain) String() string {
	return fmt.Sprint(p.chain, p.era, p.whole(), len(p.writes), len(p.reads), p.shelf.Commit(), onShelf(p.shelf))
}

// state is all that a node tells, with what is on its shelf at the end.
func state(s *chain.State) string {
	w, r := s.Waiting()
	c, on := s.Chain(), s.Shelf()
	is := fmt.Sprint(c, s.Era(), s.Whole(), w, r, on.Commit(), onShelf(on))
	spoil(c.Members, badMember)
	last, _ := on.Last()
	on.Settle(last)
	on.Fold(last)
	return is
}

func told(f api.Effect) string { return fmt.Sprintf("%+v", f) }

// pair is a node, a plain one to which the same is done, and what is kept by the effects.
type pair struct {
	*testing.T
	s    *chain.State
	p    *plain
	kept *shelf.Shelf
	era  int
}

// pairOf is both, newly made.
func pairOf(t *testing.T, id int, on *shelf.Shelf, era int) *pair {
	t.Helper()
	s, e := chain.New(id, []byte(secret), on, era)
	if e != api.OK || s == nil {
		t.Fatal(id, era, e)
	}
	x := &pair{T: t, s: s, p: plainOf(id, on, era), kept: stored(on), era: era}
	if state(x.s) != x.p.String() {
		t.Fatalf("is %q, not %q", state(x.s), x.p.String())
	}
	return x
}

// stored is a shelf as it is kept: just the table counts as committed.
func stored(on *shelf.Shelf) *shelf.Shelf {
	s, _ := shelf.From(on.Table())
	l, _ := on.Behind(on.Low(), 100)
	for _, x := range l {
		s.Add(x)
	}
	return s
}

// held checks that both told the same, and are the same, and P18.4: that just what changed is told.
func (x *pair) held(got, want api.Effect) api.Effect {
	x.Helper()
	// No list and an empty one are printed alike; printing takes long.
	if !reflect.DeepEqual(got, want) && told(got) != told(want) {
		x.Fatalf("told %s, not %s", told(got), told(want))
	}
	is := state(x.s)
	if is != x.p.String() {
		x.Fatalf("is %q, not %q", is, x.p.String())
	}
	if e := x.keep(got); e != api.OK || x.era != x.s.Era() || !strings.HasSuffix(is, onShelf(x.kept)) {
		x.Fatalf("P18.4: %d, kept %d %q by %+v, and is %q", e, x.era, onShelf(x.kept), got, is)
	}
	return got
}

// keep does what an effect says, as it is stored.
func (x *pair) keep(f api.Effect) (e api.Errno) {
	x.Helper()
	if f.Base {
		x.kept, e = shelf.From(f.Table)
	}
	if e == api.OK && f.Cut >= 0 {
		if last, _ := x.kept.Last(); last <= f.Cut {
			x.Fatalf("P18.4: nothing is cut: %+v", f)
		}
		e = x.kept.Cut(f.Cut)
	}
	for _, r := range f.Recs {
		e = max(e, x.kept.Add(r))
	}
	if f.Fold != 0 {
		e = max(e, x.kept.Settle(f.Fold), x.kept.Fold(f.Fold))
	}
	if f.Era != 0 {
		x.era = f.Era
	}
	return e
}

func (x *pair) tick() api.Effect {
	x.Helper()
	return x.held(x.spoilt(x.s.Tick()), x.p.tick())
}

// take hands in a message that is spoilt behind that, as what was answered is.
func (x *pair) take(m api.Msg) api.Effect {
	x.Helper()
	in := roomy(m)
	f := x.s.Take(in)
	if !reflect.DeepEqual(in, roomy(m)) || !roomStays(in) {
		x.Fatalf("%+v is changed to %+v", m, in)
	}
	spoilMsg(in)
	return x.held(x.spoilt(f), x.p.take(m))
}
