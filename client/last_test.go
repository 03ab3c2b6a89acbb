package client

import (
	"testing"

	"towline/api"
	"towline/proto"
)

// P21.2: the last request is 2^40, which nobody comes to by asking.
func TestLastRequest(t *testing.T) {
	c, _ := New(0)
	c.last = api.MaxIndex - 1
	l, e := c.Write(0, api.Key{'a'}, "x", 1)
	if e != api.OK || len(l) != 1 {
		t.Fatal(l, e)
	}
	if m, e := proto.Get(l[0].Data); e != api.OK || m.Req.Seq != api.MaxIndex {
		t.Error(m, e)
	}
	c.Drop()
	if l, e := c.Write(0, api.Key{'a'}, "x", 1); l != nil || e != api.ErrArg {
		t.Error(l, e)
	}
	if l, e := c.Read(0, api.Key{'a'}, api.Strong, 0, 1); l != nil || e != api.ErrArg {
		t.Error(l, e)
	}
	if c.Busy() || len(c.Calls()) != 1 {
		t.Error(c.Calls())
	}
}
