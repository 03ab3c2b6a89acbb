package client_test

import (
	"bytes"
	"fmt"
	"slices"
	"testing"

	"towline/api"
	"towline/client"
	"towline/proto"
)

const top = 1 << 40

func key(s string) api.Key {
	var k api.Key
	copy(k[:], s)
	return k
}

// row is a chain of nodes at one site.
func row(epoch int, nodes ...int) api.Chain {
	c := api.Chain{Epoch: epoch}
	for _, n := range nodes {
		c.Members = append(c.Members, api.Member{Node: n})
	}
	return c
}

// plain is a client by the chapter's words, one by one.
type plain struct {
	id    int
	last  int
	chain api.Chain
	pass  string
	told  map[api.Key]int
	calls []api.Call
	busy  bool // the last of these is on its way
}

func plainOf(id int) *plain { return &plain{id: id, told: map[api.Key]int{}} }

// now is the call on its way.
func (p *plain) now() *api.Call { return &p.calls[len(p.calls)-1] }

// message is what the call on its way asks.
func (p *plain) message(to int) []api.Msg {
	c := p.now()
	m := api.Msg{From: 9 + p.id, To: to, Req: api.Req{Client: p.id, Seq: c.Seq}, Key: c.Key, Pass: []byte(p.pass)}
	if c.Write {
		m.Kind, m.Value = 14, c.Value
	} else {
		m.Kind, m.Mode, m.Bound = 15, c.Mode, c.Bound
	}
	return []api.Msg{m}
}

// begin is a call of which key, value, mode and bound may be.
func (p *plain) begin(to, now int, c api.Call) ([]api.Msg, api.Errno) {
	if p.busy {
		return nil, api.ErrBusy
	}
	if to < 0 || to > 5 || now < 1 || p.last >= top {
		return nil, api.ErrArg
	}
	p.last++
	c.Client, c.Seq, c.Began, c.Floor = p.id, p.last, now, p.told[c.Key]
	p.calls, p.busy = append(p.calls, c), true
	return p.message(to), api.OK
}

// isKey is a text of 1 to 8 bytes without noughts, and noughts behind; all texts of these tests are UTF-8 but one.
func isKey(k api.Key) bool {
	name := bytes.TrimRight(k[:], "\x00")
	return len(name) > 0 && bytes.IndexByte(name, 0) < 0 && k != key("\xff")
}

func (p *plain) write(to int, k api.Key, value string, now int) ([]api.Msg, api.Errno) {
	if !isKey(k) || len(value) < 1 || len(value) > 24 || value == "\xff" {
		return nil, api.ErrKey
	}
	return p.begin(to, now, api.Call{Write: true, Key: k, Value: value})
}

func (p *plain) read(to int, k api.Key, mode, bound, now int) ([]api.Msg, api.Errno) {
	if !isKey(k) {
		return nil, api.ErrKey
	}
	if mode < 0 || mode > 2 || bound < 0 || bound > top {
		return nil, api.ErrArg
	}
	return p.begin(to, now, api.Call{Key: k, Mode: mode, Bound: bound})
}

func (p *plain) again(to int) ([]api.Msg, api.Errno) {
	if !p.busy {
		return nil, api.ErrNone
	}
	if to < 0 || to > 5 {
		return nil, api.ErrArg
	}
	return p.message(to), api.OK
}

func (p *plain) drop() api.Errno {
	if !p.busy {
		return api.ErrNone
	}
	p.busy = false
	return api.OK
}

func (p *plain) fresh() api.Errno {
	if p.busy {
		return api.ErrBusy
	}
	p.pass, p.told = "", map[api.Key]int{}
	return api.OK
}

func (p *plain) take(m api.Msg, now int) ([]api.Msg, api.Errno) {
	if proto.Check(m) != api.OK || m.Kind != 16 || m.To != 9+p.id || m.Req.Client != p.id {
		return nil, api.ErrMsg
	}
	if m.Chain.Epoch > p.chain.Epoch {
		p.chain = m.Chain
	}
	if !p.busy || m.Req.Seq != p.last {
		return nil, api.ErrStale
	}
	c := p.now()
	if m.Err >= 150 && m.Err <= 153 {
		if m.Err == 152 && c.Write && p.chain.Epoch > 0 && p.chain.Members[0].Node != m.From {
			return p.message(p.chain.Members[0].Node), api.OK
		}
		return nil, api.OK
	}
	if now <= c.Began {
		return nil, api.ErrArg
	}
	p.busy = false
	c.Ended, c.Err, c.Ver = now, m.Err, m.Ver
	if !c.Write {
		c.Value = m.Value
	}
	if m.Err == 0 {
		p.pass = string(m.Pass)
		if m.Ver > p.told[c.Key] {
			p.told[c.Key] = m.Ver
		}
	}
	return nil, api.OK
}

// pair is a client, and what it should be.
type pair struct {
	*testing.T
	c *client.Client
	p *plain
}

func pairOf(t *testing.T, id int) *pair {
	t.Helper()
	c, e := client.New(id)
	if e != api.OK || c == nil {
		t.Fatal(e)
	}
	return &pair{t, c, plainOf(id)}
}

// spoil writes over a list, and the room behind its end: nothing may hang on what was answered, or handed in.
func spoil[T any](l []T, bad T) {
	l = l[:cap(l)]
	for i := range l {
		l[i] = bad
	}
}

// same holds frames against messages, and the client against what it should be.
func (x *pair) same(what string, l []api.Frame, e api.Errno, want []api.Msg, no api.Errno) {
	x.Helper()
	if e != no || len(l) != len(want) {
		x.Fatalf("%s: %v %d, not %+v %d", what, l, e, want, no)
	}
	for i, f := range l {
		b, bad := proto.Put(want[i])
		if bad != api.OK || f.From != want[i].From || f.To != want[i].To || !bytes.Equal(f.Data, b) {
			x.Fatalf("%s: %v, not %+v", what, f, want[i])
		}
		spoil(f.Data, '#')
	}
	spoil(l, api.Frame{From: -9})
	x.looks(what)
}

// looks holds what the client tells of itself against what it should be.
func (x *pair) looks(what string) {
	x.Helper()
	calls, chain := x.c.Calls(), x.c.Chain()
	if x.c.Busy() != x.p.busy || !slices.Equal(calls, x.p.calls) || fmt.Sprint(chain) != fmt.Sprint(x.p.chain) {
		x.Fatalf("%s: %v %+v %v, not %v %+v %v", what, x.c.Busy(), calls, chain, x.p.busy, x.p.calls, x.p.chain)
	}
	spoil(calls, api.Call{Seq: -9})
	spoil(chain.Members, api.Member{Node: -9})
}

func (x *pair) write(to int, k, value string, now int) api.Errno {
	x.Helper()
	l, e := x.c.Write(to, key(k), value, now)
	want, no := x.p.write(to, key(k), value, now)
	x.same(fmt.Sprintf("write %d %q %q %d", to, k, value, now), l, e, want, no)
	return e
}

func (x *pair) read(to int, k string, mode, bound, now int) api.Errno {
	x.Helper()
	l, e := x.c.Read(to, key(k), mode, bound, now)
	want, no := x.p.read(to, key(k), mode, bound, now)
	x.same(fmt.Sprintf("read %d %q %d %d %d", to, k, mode, bound, now), l, e, want, no)
	return e
}

func (x *pair) again(to int) api.Errno {
	x.Helper()
	l, e := x.c.Again(to)
	want, no := x.p.again(to)
	x.same(fmt.Sprint("again ", to), l, e, want, no)
	return e
}

func (x *pair) drop() api.Errno {
	x.Helper()
	e, no := x.c.Drop(), x.p.drop()
	x.same("drop", nil, e, nil, no)
	return e
}

func (x *pair) fresh() api.Errno {
	x.Helper()
	e, no := x.c.Fresh(), x.p.fresh()
	x.same("fresh", nil, e, nil, no)
	return e
}

// take hands a message in, or the bytes of none, with room behind them.
func (x *pair) take(m api.Msg, now int) ([]api.Frame, api.Errno) {
	x.Helper()
	b, e := proto.Put(m)
	if e != api.OK {
		b = []byte("no message")
	}
	was := bytes.Clone(b)
	b = append(b, "behind"...)
	l, e := x.c.Take(b[:len(was)], now)
	if string(b) != string(was)+"behind" {
		x.Fatalf("%+v: what was handed in is another one", m)
	}
	spoil(b, '#')
	want, no := x.p.take(m, now)
	kept := slices.Clone(l)
	x.same(fmt.Sprintf("take %+v at %d", m, now), l, e, want, no)
	return kept, e
}

// done is an answer to the last request, by a node.
func (x *pair) done(from int, e api.Errno, ver int, now int) api.Errno {
	x.Helper()
	_, no := x.take(api.Msg{Kind: api.MDone, From: from, To: 9 + x.p.id, Req: api.Req{Client: x.p.id, Seq: x.p.last}, Err: e, Ver: ver}, now)
	return no
}
