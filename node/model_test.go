package node_test

import (
	"bytes"
	"fmt"
	"slices"
	"testing"

	"towline/api"
	"towline/chain"
	"towline/disk"
	"towline/node"
	"towline/proto"
	"towline/shelf"
	"towline/store"
)

const secret = "0123456789abcdef"

func key(s string) api.Key {
	var k api.Key
	copy(k[:], s)
	return k
}

// row is a chain of nodes at one site.
func row(epoch int, nodes ...int) api.Chain {
	c := api.Chain{Epoch: epoch}
	for _, n := range nodes {
		c.Members = append(c.Members, api.Member{Node: n})
	}
	return c
}

func newDisk(t *testing.T, room int) *disk.Disk {
	t.Helper()
	d, e := disk.New(room)
	if e != api.OK {
		t.Fatal(e)
	}
	return d
}

func bytesOf(t *testing.T, m api.Msg) []byte {
	t.Helper()
	b, e := proto.Put(m)
	if e != api.OK {
		t.Fatalf("%+v: %d", m, e)
	}
	return b
}

// told is all that a shelf and an era are, but for what is committed behind the table.
func told(s *shelf.Shelf, era int) string {
	if s == nil {
		return fmt.Sprint("none ", era)
	}
	l, _ := s.Behind(s.Low(), 100)
	return fmt.Sprint(era, s.Table(), l)
}

func storedBy(n *node.Node) string { return told(n.Stored()) }

// plain is a node by the chapter's words, on a disk of its own.
type plain struct {
	d     *disk.Disk
	state *chain.State
	store *store.Store
	last  api.Effect // of the last step
}

func plainOf(t *testing.T, id int, d *disk.Disk) *plain {
	t.Helper()
	s, e := store.Open(d)
	if e != api.OK {
		t.Fatal(e)
	}
	c, e := chain.New(id, []byte(secret), s.Shelf(), s.Era())
	if e != api.OK {
		t.Fatal(e)
	}
	return &plain{d: d, state: c, store: s}
}

// does keeps an effect, and is what is said then.
func (p *plain) does(f api.Effect) ([]api.Msg, api.Errno) {
	p.last = f
	if f.Err != api.OK {
		return nil, f.Err
	}
	if e := p.store.Do(f); e != api.OK {
		p.state = nil
		return nil, e
	}
	var l []api.Msg
	for _, m := range f.Send {
		if proto.Check(m) == api.OK {
			l = append(l, m)
		}
	}
	return l, api.OK
}

// pair is a node, and what it should be.
type pair struct {
	*testing.T
	id int
	d  *disk.Disk
	n  *node.Node
	p  *plain
}

// open opens both on what a disk has.
func open(t *testing.T, id int, d *disk.Disk) *pair {
	t.Helper()
	x := &pair{T: t, id: id, d: d, p: plainOf(t, id, d.Clone())}
	n, e := node.Open(id, []byte(secret), d)
	if e != api.OK || n == nil {
		t.Fatal(e)
	}
	x.n = n
	x.looks("open")
	return x
}

// fresh is one on an empty disk.
func fresh(t *testing.T, id int) *pair {
	t.Helper()
	return open(t, id, newDisk(t, 1<<16))
}

// arm lets the power of both disks go behind so many bytes.
func (x *pair) arm(n int, keep ...int) {
	x.d.Arm(n, keep...)
	x.p.d.Arm(n, keep...)
}

// crash takes the power, brings it back, and opens what is there.
func (x *pair) crash(keep ...int) *pair {
	x.Helper()
	x.d.Crash(keep...)
	x.d.Start()
	return open(x.T, x.id, x.d)
}

// spoil writes over a list, and the room behind its end: nothing may hang on what was answered, or handed in.
func spoil[T any](l []T, bad T) {
	l = l[:cap(l)]
	for i := range l {
		l[i] = bad
	}
}

// same holds frames against messages, and the node against what it should be. It is the messages.
func (x *pair) same(what string, l []api.Frame, e api.Errno, want []api.Msg, no api.Errno) []api.Msg {
	x.Helper()
	if e != no || len(l) != len(want) {
		x.Fatalf("%s: %v %d, not %+v %d", what, l, e, want, no)
	}
	for i, f := range l {
		if f.From != want[i].From || f.To != want[i].To || !bytes.Equal(f.Data, bytesOf(x.T, want[i])) {
			x.Fatalf("%s: %v, not %+v", what, f, want[i])
		}
		spoil(f.Data, '#')
	}
	spoil(l, api.Frame{From: -9})
	x.looks(what)
	return want
}

// looks holds what the node tells of itself against what it should be, and what lasts of it against what it is.
func (x *pair) looks(what string) {
	x.Helper()
	s, on := x.n.State(), storedBy(x.n)
	if x.p.state == nil {
		if s != nil || on != "none 0" {
			x.Fatalf("%s: it stands still, and tells %s", what, on)
		}
		return
	}
	if want := told(x.p.store.Shelf(), x.p.store.Era()); on != want || told(s.Shelf(), s.Era()) != want {
		x.Fatalf("%s: %s, and stored %s, not %s", what, told(s.Shelf(), s.Era()), on, want)
	}
	if own, _ := x.n.Stored(); own.Commit() != own.Low() {
		x.Fatalf("%s: %d is stored as committed", what, own.Commit())
	}
	writes, reads := s.Waiting()
	w, r := x.p.state.Waiting()
	if fmt.Sprint(s.Chain()) != fmt.Sprint(x.p.state.Chain()) || s.Whole() != x.p.state.Whole() || s.Shelf().Commit() != x.p.state.Shelf().Commit() || writes != w || reads != r {
		x.Fatalf("%s: %v, not %v", what, s.Chain(), x.p.state.Chain())
	}
}

// take hands a message in, with room behind its bytes.
func (x *pair) take(m api.Msg) ([]api.Msg, api.Errno) {
	x.Helper()
	b := bytesOf(x.T, m)
	was := slices.Clone(b)
	b = append(b, "behind"...)
	l, e := x.n.Take(b[:len(was)])
	if string(b) != string(was)+"behind" {
		x.Fatalf("%+v: what was handed in is another one", m)
	}
	spoil(b, '#')
	var want []api.Msg
	no := api.ErrNil
	if x.p.state != nil {
		want, no = x.p.does(x.p.state.Take(m))
	}
	return x.same(fmt.Sprintf("take %+v", m), l, e, want, no), e
}

func (x *pair) tick() ([]api.Msg, api.Errno) {
	x.Helper()
	l, e := x.n.Tick()
	var want []api.Msg
	no := api.ErrNil
	if x.p.state != nil {
		want, no = x.p.does(x.p.state.Tick())
	}
	return x.same("tick", l, e, want, no), e
}

// adopts is that a master tells it a chain.
func (x *pair) adopts(c api.Chain) []api.Msg {
	x.Helper()
	l, e := x.take(api.Msg{Kind: api.MChain, From: 6, To: x.id, Chain: c})
	if e != api.OK {
		x.Fatal(e)
	}
	return l
}

// write is a client's message.
func (x *pair) write(client, seq int, k, value string) api.Msg {
	return api.Msg{Kind: api.MWrite, From: 9 + client, To: x.id, Req: api.Req{Client: client, Seq: seq}, Key: key(k), Value: value}
}

// writes is that a client's write comes.
func (x *pair) writes(client, seq int, k, value string) []api.Msg {
	x.Helper()
	l, e := x.take(x.write(client, seq, k, value))
	if e != api.OK {
		x.Fatal(e)
	}
	return l
}
