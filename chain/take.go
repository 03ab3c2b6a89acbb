package chain

import (
	"towline/api"
	"towline/layout"
	"towline/pass"
	"towline/proto"
)

// Take takes a message.
func (s *State) Take(m api.Msg) api.Effect {
	switch {
	case !s.made():
		return refused(api.ErrNil)
	case proto.Check(m) != api.OK || m.To != s.id:
		return refused(api.ErrMsg)
	}
	p := s.begin()
	// Whatever answers an error has done nothing ahead of that.
	if e := p.take(m); e != api.OK {
		return refused(e)
	}
	return p.end()
}

// take takes a message that may be, by its kind.
func (p *step) take(m api.Msg) api.Errno {
	switch m.Kind {
	case api.MChain:
		return p.takeChain(m)
	case api.MWrite, api.MRead:
		return p.takeCall(m)
	case api.MPut, api.MBase, api.MHave, api.MAck, api.MAsk, api.MVer:
		return p.takeAlong(m)
	}
	return api.ErrMsg
}

func isMaster(place int) bool { return place >= firstMaster && place < firstClient }

// takeChain takes what masters say of the chain, perhaps as the answer to a read's question.
func (p *step) takeChain(m api.Msg) api.Errno {
	if !isMaster(m.From) {
		return api.ErrMsg
	}
	if m.Epoch == p.chain.Epoch {
		p.sure(m.Nonce, m.Chain.Epoch)
	}
	switch {
	case m.Chain.Epoch > p.era:
		p.adopt(m.Chain)
	case m.Chain.Epoch == p.chain.Epoch && layout.Nodes(m.Chain) == layout.Nodes(p.chain):
		p.ready(m.Chain)
	}
	return api.OK
}

// sure ends the read of a nonce: it may be told, if the epoch was still the same behind its being fixed.
func (p *step) sure(nonce, epoch int) {
	for _, r := range p.let(func(r read) bool { return r.fixed && r.nonce == nonce }) {
		if epoch == p.chain.Epoch && p.Whole() {
			p.answer(r.call, r.ver, r.value)
		} else {
			p.refuse(r.req, api.ErrStale)
		}
	}
}

// adopt makes a chain of a greater epoch its own. What reads were fixed with may be too old there.
func (p *step) adopt(c api.Chain) {
	for _, r := range p.let(func(read) bool { return true }) {
		p.refuse(r.req, api.ErrStale)
	}
	p.era, p.out.Era = c.Epoch, c.Epoch
	p.chain, p.synced, p.has = copied(c), false, unknown
	if !p.isHead() {
		p.writes = nil
	}
	if p.Whole() {
		p.settleTail(p.last())
		p.feed()
	}
}

// ready makes those whole that are so in the same chain.
func (p *step) ready(c api.Chain) {
	whole := layout.Whole(c)
	for i, m := range p.chain.Members {
		p.chain.Members[i].Fresh = m.Fresh && !whole.Has(m.Node)
	}
}

// takeCall takes a client's call.
func (p *step) takeCall(m api.Msg) api.Errno {
	if m.From != firstClient+m.Req.Client {
		return api.ErrMsg
	}
	seen, e := pass.Read(p.key, m.Pass)
	c := call{req: m.Req, key: m.Key, seen: seen}
	switch {
	case e != api.OK:
		p.refuse(m.Req, e)
	case m.Kind == api.MWrite:
		p.takeWrite(c, m.Value)
	default:
		p.takeRead(c, m.Mode, m.Bound)
	}
	return api.OK
}

// takeWrite gives a write its place in the order, if it has none.
func (p *step) takeWrite(c call, value string) {
	if !p.isHead() {
		p.refuse(c.req, api.ErrHead)
		return
	}
	ver, committed := p.shelf.Known(c.req)
	switch {
	case committed:
		p.answer(c, ver, "")
	case ver > 0:
		p.wait(c)
	default:
		p.write(c, value)
	}
}

// wait puts a write behind all others that wait, in place of the same request.
func (p *step) wait(c call) {
	_, others := parted(p.writes, func(w call) bool { return w.req == c.req })
	p.writes = append(others, c)
}

// write puts a request that is not known behind the other records.
func (p *step) write(c call, value string) {
	x, e := p.record(c, value)
	if e == api.OK {
		e = p.shelf.Add(x)
	}
	if e != api.OK {
		p.refuse(c.req, e)
		return
	}
	p.out.Recs = append(p.out.Recs, x)
	p.wait(c)
	if p.isTail() {
		p.settle(p.last())
	} else {
		p.feed()
	}
}

// record is the one that a request would be. Its session must have room for what it will be told.
func (p *step) record(c call, value string) (api.Record, api.Errno) {
	if len(p.writes) >= api.MaxQueue {
		return api.Record{}, api.ErrFull
	}
	if _, e := pass.See(c.seen, c.key, 1); e != api.OK {
		return api.Record{}, e
	}
	return p.shelf.Next(p.chain.Epoch, c.key, value, c.req)
}

// takeRead answers a read, if that hangs on nobody else; else it waits.
func (p *step) takeRead(c call, mode, bound int) {
	clean := p.shelf.Clean(c.key)
	switch {
	case mode > api.Eventual:
		p.refuse(c.req, api.ErrArg)
		return
	case mode == api.Eventual && clean.Ver >= pass.Floor(c.seen, c.key):
		p.answer(c, clean.Ver, clean.Value)
		return
	}
	p.let(func(r read) bool { return r.req == c.req })
	switch {
	case !p.Whole():
		p.refuse(c.req, api.ErrWait)
		return
	case len(p.asked) >= api.MaxQueue || p.nonce == api.MaxIndex:
		p.refuse(c.req, api.ErrFull)
		return
	}
	p.nonce++
	r := read{call: c, nonce: p.nonce}
	above := p.shelf.Top(c.key).Ver - clean.Ver
	if above == 0 || mode == api.Bounded && above <= bound {
		r.fix(clean.Ver, clean.Value)
	}
	p.asked = append(p.asked, r)
	p.pursue(r)
}
