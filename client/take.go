package client

import (
	"towline/api"
	"towline/layout"
	"towline/proto"
)

// Take takes bytes, at a time: an answer ends the call, or leads elsewhere.
func (c *Client) Take(b []byte, now int) ([]api.Frame, api.Errno) {
	if !c.made() {
		return nil, api.ErrNil
	}
	m, e := proto.Get(b)
	if e != api.OK {
		return nil, e
	}
	if m.Kind != api.MDone || m.To != c.place() || m.Req.Client != c.id {
		return nil, api.ErrMsg
	}
	// Also a late answer tells of a chain.
	if m.Chain.Epoch > c.chain.Epoch {
		c.chain = m.Chain
	}
	switch {
	case !c.Busy() || m.Req.Seq != c.call.Seq:
		return nil, api.ErrStale
	case stays(m.Err):
		return c.elsewhere(m), api.OK
	case now <= c.call.Began:
		return nil, api.ErrArg
	}
	c.end(m, now)
	return nil, api.OK
}

// stays tells errors of who can't answer now, or here: somebody else may, or the same later.
func stays(e api.Errno) bool {
	switch e {
	case api.ErrHead, api.ErrWait, api.ErrStale, api.ErrEpoch:
		return true
	}
	return false
}

// elsewhere asks the head for a write that another one refused; nothing, if it knows of none.
func (c *Client) elsewhere(m api.Msg) []api.Frame {
	head := layout.Head(c.chain)
	if m.Err != api.ErrHead || !c.call.Write || !isNode(head) || head == m.From {
		return nil
	}
	return c.ask(head)
}

// end ends the call as it was answered.
func (c *Client) end(m api.Msg, now int) {
	c.call.Ended, c.call.Err, c.call.Ver = now, m.Err, m.Ver
	if !c.call.Write {
		c.call.Value = m.Value
	}
	if m.Err == api.OK {
		c.saw(c.call.Key, m.Ver, m.Pass)
	}
	c.over()
}
