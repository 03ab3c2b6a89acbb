package master

import (
	"bytes"
	"slices"

	"towline/api"
	"towline/ledger"
	"towline/proto"
)

// Take takes bytes.
func (m *Master) Take(b []byte) ([]api.Frame, api.Errno) {
	if m.dead() {
		return nil, api.ErrNil
	}
	x, e := proto.Get(b)
	if e != api.OK {
		return nil, e
	}
	if x.To != m.place() {
		return nil, api.ErrMsg
	}
	out, e := m.take(x)
	return frames(out), e
}

// take takes a message to it, by its kind.
func (m *Master) take(x api.Msg) ([]api.Msg, api.Errno) {
	switch x.Kind {
	case api.MVote, api.MGrant, api.MFeed, api.MFed:
		x.From, x.To = x.From-firstMaster, x.To-firstMaster
		return m.do(m.state.Take(x))
	case api.MTell:
		return m.order(x.Cmd)
	case api.MSure:
		return m.ask(question{from: x.From, epoch: x.Epoch, nonce: x.Nonce})
	}
	return nil, api.ErrMsg
}

// order proposes a command, unless it would come to nothing, or is on its way. Nodes say things again and again: rows are few.
func (m *Master) order(c api.Command) ([]api.Msg, api.Errno) {
	data, _ := ledger.Put(c) // no message has a command that can't be
	next := m.ledger.At() + 1
	if e := m.ledger.Clone().Apply(next, data); e != api.OK {
		return nil, e
	}
	if slices.ContainsFunc(m.rowsFrom(next), func(r api.Row) bool { return bytes.Equal(r.Data, data) }) {
		return nil, api.ErrThere
	}
	return m.do(m.state.Propose(data))
}

// ask lets a question wait until it is sure that it led still behind it.
func (m *Master) ask(q question) ([]api.Msg, api.Errno) {
	is := func(a asked) bool { return a.question == q }
	others := len(m.waiting)
	if slices.ContainsFunc(m.waiting, is) {
		others--
	}
	if others >= api.MaxQueue {
		return nil, api.ErrFull
	}
	m.nonce++
	out, e := m.do(m.state.Ask(m.nonce))
	if e == api.OK {
		m.waiting = append(slices.DeleteFunc(m.waiting, is), asked{question: q, own: m.nonce})
	}
	return out, e
}
