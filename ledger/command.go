package ledger

import (
	"towline/api"
	"towline/wire"
)

// Check tells whether a command may be.
func Check(c api.Command) api.Errno {
	node := c.Node >= 0 && c.Node < api.MaxNodes
	site := c.Site >= 0 && c.Site < api.MaxSites
	switch c.Kind {
	case api.CDead, api.CAgain, api.CReady:
		site = c.Site == 0
	case api.CJoin:
	case api.CSite:
		node = c.Node == 0
	default:
		return api.ErrCommand
	}
	if !node || !site || c.Epoch < 1 || c.Epoch > api.MaxIndex {
		return api.ErrCommand
	}
	return api.OK
}

// Put is a command as bytes.
func Put(c api.Command) ([]byte, api.Errno) {
	if e := Check(c); e != api.OK {
		return nil, e
	}
	return wire.Put(nil, uint64(c.Kind), uint64(c.Node), uint64(c.Site), uint64(c.Epoch)), api.OK
}

// Get is the command that bytes are.
func Get(b []byte) (api.Command, api.Errno) {
	r := wire.Read(b)
	next := func() int { return r.Within(0, api.MaxIndex) }
	c := api.Command{Kind: next(), Node: next(), Site: next(), Epoch: next()}
	if r.End() != api.OK || Check(c) != api.OK {
		return api.Command{}, api.ErrCommand
	}
	return c, api.OK
}
