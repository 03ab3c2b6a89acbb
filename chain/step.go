package chain

import (
	"towline/api"
	"towline/layout"
	"towline/pass"
)

// Where masters and clients stand, behind the nodes.
const (
	firstMaster = api.MaxNodes
	firstClient = api.MaxNodes + api.Masters
)

// uncut is an effect's Cut, if nothing is cut.
const uncut = -1

// foldFrom is how many records behind the table are so many that they are folded.
const foldFrom = 16

// step is what a call does to a node, and what it tells of that.
type step struct {
	*State
	committed int // ahead of the step
	out       api.Effect
}

// begin is a step that has done nothing as yet.
func (s *State) begin() *step {
	return &step{State: s, committed: s.shelf.Commit(), out: api.Effect{Cut: uncut}}
}

// end folds, if there are many records, and is what the step tells.
func (p *step) end() api.Effect {
	low := p.shelf.Low()
	if p.last()-low >= foldFrom && p.committed > low {
		p.shelf.Fold(p.committed)
		p.out.Fold = p.committed
	}
	return p.out
}

// send sends a message.
func (p *step) send(to int, m api.Msg) {
	m.From, m.To = p.id, to
	p.out.Send = append(p.out.Send, m)
}

// along sends a message to another one of the chain, in its epoch.
func (p *step) along(to int, m api.Msg) {
	m.Epoch = p.chain.Epoch
	p.send(to, m)
}

// ask asks all masters: whoever of them leads answers.
func (p *step) ask(m api.Msg) {
	for i := range api.Masters {
		p.send(firstMaster+i, m)
	}
}

// tell tells masters something of itself, in an epoch.
func (p *step) tell(kind, epoch int) {
	p.ask(api.Msg{Kind: api.MTell, Cmd: api.Command{Kind: kind, Node: p.id, Epoch: epoch}})
}

// done ends a request at its client, which learns of the chain by that.
func (p *step) done(r api.Req, m api.Msg) {
	m.Kind, m.Req, m.Chain = api.MDone, r, p.Chain()
	p.send(firstClient+r.Client, m)
}

// refuse ends a request with an error.
func (p *step) refuse(r api.Req, e api.Errno) { p.done(r, api.Msg{Err: e}) }

// answer ends a call with a version and a value of its key, which its session has seen from now on.
func (p *step) answer(c call, ver int, value string) {
	seen, e := pass.See(c.seen, c.key, ver)
	if e != api.OK {
		p.refuse(c.req, e)
		return
	}
	b, _ := pass.Make(p.key, seen...)
	p.done(c.req, api.Msg{Ver: ver, Value: value, Pass: b})
}

// feed sends the one next what it has not, as far as that is known.
func (p *step) feed() {
	to := p.next()
	if !p.Whole() || !isNode(to) {
		return
	}
	prev := p.has
	if prev == unknown {
		prev = p.last()
	}
	if prev < p.shelf.Low() {
		p.along(to, api.Msg{Kind: api.MBase, Table: p.shelf.Table()})
		return
	}
	epoch, _ := p.shelf.Epoch(prev)
	recs, _ := p.shelf.Behind(prev, api.MaxBatch)
	p.along(to, api.Msg{Kind: api.MPut, Index: p.last(), Prev: prev, Last: epoch, Recs: recs, Commit: p.shelf.Commit()})
}

// isNode tells a node from the nobody who stands beside the ends of a chain.
func isNode(n int) bool { return n >= 0 }

// report says what is committed to the one back.
func (p *step) report() {
	if to := p.back(); p.Whole() && isNode(to) {
		p.along(to, api.Msg{Kind: api.MAck, Commit: p.shelf.Commit()})
	}
}

// settle commits all up to an index, and answers the writes that waited for that.
func (p *step) settle(index int) {
	if index <= p.shelf.Commit() || index > p.last() {
		return
	}
	p.shelf.Settle(index)
	p.report()
	var written []call
	written, p.writes = parted(p.writes, func(w call) bool {
		_, committed := p.shelf.Known(w.req)
		return committed
	})
	for _, w := range written {
		ver, _ := p.shelf.Known(w.req)
		p.answer(w, ver, "")
	}
}

// settleTail commits all up to an index, if nobody stands behind it who would have to have it.
func (p *step) settleTail(index int) {
	if p.isTail() {
		p.settle(index)
	}
}

// pursue asks for what a read waits for.
func (p *step) pursue(r read) {
	if r.fixed {
		p.ask(api.Msg{Kind: api.MSure, Epoch: p.chain.Epoch, Nonce: r.nonce})
		return
	}
	p.along(layout.Tail(p.chain), api.Msg{Kind: api.MAsk, Nonce: r.nonce, Key: r.key})
}
