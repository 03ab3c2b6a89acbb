package master

import (
	"slices"

	"towline/api"
	"towline/proto"
)

// do does what a step of the state tells: what changed is kept ahead of anything that is said.
func (m *Master) do(o api.Out) ([]api.Msg, api.Errno) {
	if o.Err != api.OK {
		return nil, o.Err
	}
	// Who can't keep what it is may not speak by it, now or later: it stands still.
	if e := m.keep(o); e != api.OK {
		*m = Master{}
		return nil, e
	}
	out := toMasters(o.Send)
	if m.apply() && m.leads() {
		out = append(out, m.tell()...)
	}
	out = append(out, m.answer(o.Sure)...)
	// The state has forgotten what it was asked when it led.
	if !m.leads() {
		m.waiting = nil
	}
	return out, api.OK
}

// toMasters is a state's messages, whose ends are masters' numbers, from place to place.
func toMasters(l []api.Msg) []api.Msg {
	var out []api.Msg
	for _, x := range l {
		x.From, x.To = firstMaster+x.From, firstMaster+x.To
		out = append(out, x)
	}
	return out
}

// apply does all commands that are committed; whether the chain is another one then. One that comes to nothing is done, too: the others do the same.
func (m *Master) apply() bool {
	was, at := m.ledger.Chain(), m.ledger.At()
	for i, r := range m.state.Rows(at+1, m.state.View().Commit-at) {
		m.ledger.Apply(at+1+i, r.Data)
	}
	return !same(was, m.ledger.Chain())
}

func same(a, b api.Chain) bool { return a.Epoch == b.Epoch && slices.Equal(a.Members, b.Members) }

// says is the chain to somebody, as the answer to what was asked so.
func (m *Master) says(to, epoch, nonce int) api.Msg {
	return api.Msg{Kind: api.MChain, From: m.place(), To: to, Epoch: epoch, Nonce: nonce, Chain: m.ledger.Chain()}
}

// tell is the chain to each node, be it in it or not.
func (m *Master) tell() []api.Msg {
	var out []api.Msg
	for node := range api.MaxNodes {
		out = append(out, m.says(node, 0, 0))
	}
	return out
}

// answer ends questions behind which it led still. One that was asked anew meanwhile waits by its new nonce alone.
func (m *Master) answer(l []api.Sure) []api.Msg {
	var out []api.Msg
	for _, s := range l {
		at := slices.IndexFunc(m.waiting, func(q asked) bool { return q.own == s.Nonce })
		if at < 0 {
			continue
		}
		q := m.waiting[at]
		m.waiting = slices.Delete(m.waiting, at, at+1)
		out = append(out, m.says(q.from, q.epoch, q.nonce))
	}
	return out
}

// frames is messages as bytes.
func frames(l []api.Msg) []api.Frame {
	var out []api.Frame
	for _, x := range l {
		if b, e := proto.Put(x); e == api.OK {
			out = append(out, api.Frame{From: x.From, To: x.To, Data: b})
		}
	}
	return out
}
