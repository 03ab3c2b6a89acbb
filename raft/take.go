package raft

import "towline/api"

// mayBe tells whether a message's numbers and rows may be.
func mayBe(m api.Msg) bool {
	for _, n := range [...]int{m.Term, m.Index, m.Prev, m.Last, m.Commit, m.Round} {
		if !within(n, 0, api.MaxIndex) {
			return false
		}
	}
	switch m.Kind {
	case api.MVote:
		return m.Index <= api.MaxRows && isRow(m.Index, m.Last, m.Term)
	case api.MGrant:
		return true
	case api.MFeed:
		return len(m.Rows) <= api.MaxBatch && m.Prev+len(m.Rows) <= api.MaxRows &&
			isRow(m.Prev, m.Last, m.Term) && mayFollow(max(m.Last, 1), m.Term, m.Rows)
	case api.MFed:
		return m.Index <= api.MaxRows
	}
	return false
}

// isRow tells whether a row of a term may stand at an index, told of in a term; both 0: there is none.
func isRow(index, term, now int) bool { return (index == 0) == (term == 0) && term <= now }

// concerns tells whether a message is of another one, and to this one.
func (s *State) concerns(m api.Msg) bool { return isMaster(m.From) && m.From != s.id && m.To == s.id }

// Take takes a message.
func (s *State) Take(m api.Msg) api.Out {
	switch {
	case !s.made():
		return refused(api.ErrNil)
	case !s.concerns(m) || m.Term < 1 || !mayBe(m):
		return refused(api.ErrTerm)
	}
	p := s.begin()
	if m.Term > s.hard.Term {
		p.enter(m.Term)
	}
	switch m.Kind {
	case api.MVote:
		p.takeVote(m)
	case api.MGrant:
		p.takeGrant(m)
	case api.MFeed:
		p.takeFeed(m)
	case api.MFed:
		p.takeFed(m)
	}
	return p.end()
}

// asFresh tells whether rows that end so are as fresh as its own.
func (s *State) asFresh(index, term int) bool {
	own := s.termAt(s.last())
	return term > own || term == own && index >= s.last()
}

// takeVote votes for who asks, if it voted for nobody else in this term.
func (p *step) takeVote(m api.Msg) {
	free := p.hard.Vote == nobody || p.hard.Vote == m.From
	yes := m.Term == p.hard.Term && free && p.asFresh(m.Index, m.Last)
	if yes {
		p.hard.Vote, p.clock = m.From, 0
	}
	p.send(api.Msg{Kind: api.MGrant, To: m.From, Yes: yes})
}

// takeGrant counts a vote.
func (p *step) takeGrant(m api.Msg) {
	if m.Term != p.hard.Term || p.role != api.Stands || !m.Yes {
		return
	}
	p.granted = p.granted.With(m.From)
	if p.granted.Most(three) {
		p.win()
	}
}

// takeFeed takes rows, and says how far it has them.
func (p *step) takeFeed(m api.Msg) {
	index, yes := p.fed(m)
	p.send(api.Msg{Kind: api.MFed, To: m.From, Index: index, Round: m.Round, Yes: yes})
}

// fed takes rows of who leads: up to which index its own are the leader's; not yes: up to which they might be.
func (p *step) fed(m api.Msg) (index int, yes bool) {
	if m.Term < p.hard.Term || p.leads() {
		return 0, false
	}
	p.fall(m.From)
	p.clock = 0
	if p.termAt(m.Prev) != m.Last {
		return min(p.last(), m.Prev-1), false
	}
	end := m.Prev
	for _, r := range m.Rows {
		end++
		switch {
		case p.termAt(end) == r.Term:
		case end <= p.commit:
			return 0, false
		default:
			p.lay(end, r)
		}
	}
	p.commit = max(p.commit, min(m.Commit, end))
	return end, true
}

// takeFed learns up to where another one has its rows, and feeds it more.
func (p *step) takeFed(m api.Msg) {
	if m.Term != p.hard.Term || !p.leads() {
		return
	}
	o := &p.known[m.From]
	o.round = max(o.round, min(m.Round, p.round))
	has, was := min(m.Index, p.last()), o.next
	if m.Yes {
		o.match, o.next = max(o.match, has), max(o.next, has+1)
	} else {
		o.next = max(o.match, has) + 1
	}
	p.settle()
	p.answer()
	if m.Yes && o.next <= p.last() || !m.Yes && o.next < was {
		p.feed(m.From)
	}
}

// settle commits up to the last row of its own term that most have: an elder one may still be put out by another leader.
func (p *step) settle() {
	for index := p.last(); index > p.commit; index-- {
		if p.termAt(index) == p.hard.Term && p.most(func(o other) bool { return o.match >= index }) {
			p.commit = index
			return
		}
	}
}

// answer answers questions in their order, as long as most were heard of in their round.
func (p *step) answer() {
	for len(p.waiting) > 0 {
		q := p.waiting[0]
		if !p.most(func(o other) bool { return o.round >= q.round }) {
			return
		}
		p.out.Sure = append(p.out.Sure, api.Sure{Nonce: q.nonce, Index: q.index})
		p.waiting = p.waiting[1:]
	}
}
