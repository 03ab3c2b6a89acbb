package raft

import (
	"towline/api"
	"towline/mask"
)

// step is what a call does to a state, and what it tells of that.
type step struct {
	*State
	was api.Hard
	out api.Out
}

// begin is a step that has done nothing as yet.
func (s *State) begin() *step { return &step{State: s, was: s.hard} }

// end is what the step tells.
func (p *step) end() api.Out {
	p.out.Hard = p.hard != p.was
	return p.out
}

// send sends a message, of the term as it is now.
func (p *step) send(m api.Msg) {
	m.From, m.Term = p.id, p.hard.Term
	p.out.Send = append(p.out.Send, m)
}

// feed sends rows to another one, from its next one on.
func (p *step) feed(to int) {
	prev := p.known[to].next - 1
	p.send(api.Msg{
		Kind: api.MFeed, To: to, Prev: prev, Last: p.termAt(prev),
		Rows: p.part(prev+1, api.MaxBatch), Commit: p.commit, Round: p.round,
	})
}

// canvass asks another one for its vote.
func (p *step) canvass(to int) {
	p.send(api.Msg{Kind: api.MVote, To: to, Index: p.last(), Last: p.termAt(p.last())})
}

// lay puts a row at an index, in place of all from there on. Indices rise in a step: the first one is the least.
func (p *step) lay(index int, r api.Row) {
	p.put(index, r)
	if p.out.From == 0 {
		p.out.From = index
	}
}

// add puts a row of its own term behind all others.
func (p *step) add(data []byte) { p.lay(p.last()+1, api.Row{Term: p.hard.Term, Data: data}) }

// fall makes it follow, whoever it is that leads.
func (p *step) fall(lead int) {
	p.role, p.lead = api.Follows, lead
	p.waiting, p.granted = nil, 0
}

// enter begins a term above its own, in which it has not voted.
func (p *step) enter(term int) {
	p.hard = api.Hard{Term: term, Vote: nobody}
	p.fall(nobody)
}

// stand asks all others for their votes, in a new term.
func (p *step) stand(timeout int) {
	p.enter(p.hard.Term + 1)
	p.hard.Vote, p.granted = p.id, mask.Of(p.id)
	p.role = api.Stands
	p.clock, p.limit = 0, patience+timeout
	p.others(p.canvass)
}

// win makes it lead. It can't commit rows of elder terms but under one of its own: that has no data.
func (p *step) win() {
	p.role, p.lead, p.round = api.Leads, p.id, 0
	next := p.last() + 1
	p.others(func(id int) { p.known[id] = other{next: next} })
	if p.last() < api.MaxRows {
		p.add(nil)
	}
	p.others(p.feed)
}
