package chain

import (
	"slices"

	"towline/api"
	"towline/layout"
	"towline/shelf"
)

// fromRight tells whether a message comes from the one who may send it along the chain.
func (s *State) fromRight(m api.Msg) bool {
	switch m.Kind {
	case api.MPut, api.MBase:
		return m.From == s.back()
	case api.MHave, api.MAck:
		return m.From == s.next()
	case api.MAsk:
		return s.isTail() && s.Whole() && layout.Nodes(s.chain).Has(m.From)
	}
	return m.From == layout.Tail(s.chain)
}

// takeAlong takes what one of the chain says to another one.
func (p *step) takeAlong(m api.Msg) api.Errno {
	switch {
	case m.Epoch != p.chain.Epoch:
		return api.ErrEpoch
	case !p.fromRight(m):
		return api.ErrStale
	case m.Kind == api.MPut && !inRow(m.Prev, m.Recs):
		return api.ErrStale
	case m.Kind == api.MHave && m.Index > p.last():
		return api.ErrStale
	}
	switch m.Kind {
	case api.MPut:
		p.takePut(m)
	case api.MBase:
		p.takeBase(m)
	case api.MHave:
		p.takeHave(m)
	case api.MAck:
		p.takeAck(m)
	case api.MAsk:
		p.along(m.From, api.Msg{Kind: api.MVer, Nonce: m.Nonce, Ver: p.shelf.Clean(m.Key).Ver})
	case api.MVer:
		p.takeVer(m)
	}
	return api.OK
}

// inRow tells whether records' indices are the next ones behind one.
func inRow(prev int, recs []api.Record) bool {
	for i, x := range recs {
		if x.Index != prev+1+i {
			return false
		}
	}
	return true
}

// fits tells whether a record of an epoch stands at an index. What is in the table is everybody's.
func (s *State) fits(index, epoch int) bool {
	own, there := s.shelf.Epoch(index)
	return index < s.shelf.Low() || there && own == epoch
}

// have says up to where it has all; not yes: it has not what it was sent the next of.
func (p *step) have(to, index int, yes bool) {
	p.along(to, api.Msg{Kind: api.MHave, Index: index, Yes: yes})
}

// takePut takes records of the one back.
func (p *step) takePut(m api.Msg) {
	if !p.fits(m.Prev, m.Last) {
		p.have(m.From, p.shelf.Commit(), false)
		return
	}
	top := m.Prev
	for _, x := range m.Recs {
		if !p.put(x) {
			break
		}
		top = x.Index
	}
	if !p.Whole() && top >= m.Index {
		p.sync(top)
	}
	p.settleTail(top)
	p.settle(min(m.Commit, top))
	p.have(m.From, top, true)
	if len(p.out.Recs) > 0 {
		p.feed()
	}
}

// put lays a record at its index, in place of another one and all behind that; false: that can't be.
func (p *step) put(x api.Record) bool {
	if p.fits(x.Index, x.Epoch) {
		return true
	}
	if x.Index <= p.last() {
		if x.Index <= p.shelf.Commit() {
			return false
		}
		p.cut(x.Index - 1)
	}
	if p.shelf.Add(x) != api.OK {
		return false
	}
	p.out.Recs = append(p.out.Recs, x)
	return true
}

// cut lets go all records above an index, as far as they are not committed.
func (p *step) cut(index int) {
	index = max(index, p.shelf.Commit())
	if index < p.last() {
		p.shelf.Cut(index)
		p.out.Cut = index
	}
}

// sync makes a fresh one whole, that has all up to an index, which is all that the one back has.
func (p *step) sync(top int) {
	p.synced = true
	p.cut(top)
	p.tell(api.CReady, p.chain.Epoch)
	p.feed()
}

// takeBase takes a table of the one back, if that has more than is committed here.
func (p *step) takeBase(m api.Msg) {
	t := m.Table
	if t.Index <= p.shelf.Commit() {
		p.have(m.From, p.shelf.Commit(), false)
		return
	}
	if p.fits(t.Index, t.Epoch) {
		p.settle(t.Index)
	} else {
		p.base(t)
	}
	p.have(m.From, t.Index, true)
}

// base lays a table in place of all.
func (p *step) base(t api.Table) {
	p.shelf, _ = shelf.From(t)
	t.Cells, t.Done = slices.Clone(t.Cells), slices.Clone(t.Done)
	p.out.Base, p.out.Table = true, t
}

// takeHave learns up to where the one next has all, and feeds it more.
func (p *step) takeHave(m api.Msg) {
	was := p.has
	if !m.Yes || m.Index > was {
		p.has = m.Index
	}
	// What was known already was fed then: a message that is doubled makes no others.
	if p.has != was && (p.has < p.last() || !m.Yes) {
		p.feed()
	}
}

// takeAck learns what is committed.
func (p *step) takeAck(m api.Msg) {
	if p.Whole() {
		p.settle(min(m.Commit, p.last()))
	}
}

// takeVer learns which version of its key a read is told.
func (p *step) takeVer(m api.Msg) {
	waits := func(r read) bool { return r.nonce == m.Nonce && !r.fixed }
	at := slices.IndexFunc(p.asked, waits)
	if at < 0 {
		return
	}
	r := p.asked[at]
	value, there := p.shelf.Of(r.key, m.Ver)
	if !there {
		p.let(waits)
		p.refuse(r.req, api.ErrWait)
		return
	}
	r.fix(m.Ver, value)
	p.asked[at] = r
	p.pursue(r)
}
