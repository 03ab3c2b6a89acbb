package master_test

import (
	"bytes"
	"fmt"
	"slices"
	"testing"

	"towline/api"
	"towline/disk"
	"towline/ledger"
	"towline/master"
	"towline/proto"
	"towline/raft"
	"towline/tape"
)

const top = 1 << 40

// two is the nodes of the first chain of most tests.
func two() []api.Member { return []api.Member{{Node: 0}, {Node: 1, Site: 1}} }

func newDisk(t *testing.T, room int) *disk.Disk {
	t.Helper()
	d, e := disk.New(room)
	if e != api.OK {
		t.Fatal(e)
	}
	return d
}

func bytesOf(t *testing.T, m api.Msg) []byte {
	t.Helper()
	b, e := proto.Put(m)
	if e != api.OK {
		t.Fatalf("%+v: %d", m, e)
	}
	return b
}

// signed is numbers with signs as the chapter of wire says, seven bits a byte.
func signed(l ...int) []byte {
	var b []byte
	for _, n := range l {
		u := uint64(2 * n)
		if n < 0 {
			u = uint64(-2*n - 1)
		}
		for ; u > 127; u /= 128 {
			b = append(b, byte(u%128)+128)
		}
		b = append(b, byte(u))
	}
	return b
}

func hardNote(term, vote int) []byte { return signed(1, term, vote) }

// rowNote is the note of a row; its data are fewer than 128 bytes.
func rowNote(index, term int, data string) []byte {
	return append(append(signed(2, index, term), byte(len(data))), data...)
}

func order(c api.Command) string {
	b, _ := ledger.Put(c)
	return string(b)
}

// waits is a question that does.
type waits struct{ from, epoch, nonce, own int }

// plain is a master by the chapter's words, on a disk of its own.
type plain struct {
	id     int
	d      *disk.Disk
	tape   *tape.Tape
	state  *raft.State // nil: it stands still
	ledger *ledger.Ledger
	waits  []waits
	own    int
	notes  [][]byte // of the last step
}

// says is a message of the chain.
func (p *plain) says(to, epoch, nonce int) api.Msg {
	return api.Msg{Kind: api.MChain, From: 6 + p.id, To: to, Epoch: epoch, Nonce: nonce, Chain: p.ledger.Chain()}
}

// tell tells the chain to each node.
func (p *plain) tell() (l []api.Msg) {
	for i := range 6 {
		l = append(l, p.says(i, 0, 0))
	}
	return l
}

func (p *plain) leads() bool { return p.state.View().Role == api.Leads }

// put writes what changed, and syncs it.
func (p *plain) put(o api.Out) api.Errno {
	if o.Hard {
		h := p.state.View().Hard
		p.notes = append(p.notes, hardNote(h.Term, h.Vote))
	}
	if o.From > 0 {
		for i, r := range p.state.Rows(o.From, 200) {
			p.notes = append(p.notes, rowNote(o.From+i, r.Term, string(r.Data)))
		}
	}
	for _, b := range p.notes {
		if e := p.tape.Put(b); e != api.OK {
			return e
		}
	}
	if len(p.notes) > 0 {
		return p.tape.Sync()
	}
	return api.OK
}

// does does what a step tells.
func (p *plain) does(o api.Out) ([]api.Msg, api.Errno) {
	if o.Err != api.OK {
		return nil, o.Err
	}
	if e := p.put(o); e != api.OK {
		p.state = nil
		return nil, e
	}
	var l []api.Msg
	for _, m := range o.Send {
		m.From += 6
		m.To += 6
		l = append(l, m)
	}
	was := fmt.Sprint(p.ledger.Chain())
	for p.ledger.At() < p.state.View().Commit {
		next := p.ledger.At() + 1
		p.ledger.Apply(next, p.state.Rows(next, 1)[0].Data)
	}
	if p.leads() && fmt.Sprint(p.ledger.Chain()) != was {
		l = append(l, p.tell()...)
	}
	for _, s := range o.Sure {
		for i, q := range p.waits {
			if q.own == s.Nonce {
				l = append(l, p.says(q.from, q.epoch, q.nonce))
				p.waits = append(slices.Clone(p.waits[:i]), p.waits[i+1:]...)
				break
			}
		}
	}
	if !p.leads() {
		p.waits = nil
	}
	return l, api.OK
}

func (p *plain) tick(timeout int) ([]api.Msg, api.Errno) {
	p.notes = nil
	if p.state == nil {
		return nil, api.ErrNil
	}
	l, e := p.does(p.state.Tick(timeout))
	if e == api.OK && p.leads() {
		l = append(l, p.tell()...)
	}
	return l, e
}

func (p *plain) take(m api.Msg) ([]api.Msg, api.Errno) {
	p.notes = nil
	switch {
	case p.state == nil:
		return nil, api.ErrNil
	case m.To != 6+p.id:
		return nil, api.ErrMsg
	case m.Kind >= 1 && m.Kind <= 4:
		m.From -= 6
		m.To -= 6
		return p.does(p.state.Take(m))
	case m.Kind == 5:
		return p.ordered(m.Cmd)
	case m.Kind == 6:
		return p.asked(waits{from: m.From, epoch: m.Epoch, nonce: m.Nonce})
	}
	return nil, api.ErrMsg
}

func (p *plain) ordered(c api.Command) ([]api.Msg, api.Errno) {
	b := order(c)
	next := p.ledger.At() + 1
	if e := p.ledger.Clone().Apply(next, []byte(b)); e != api.OK {
		return nil, e
	}
	for _, r := range p.state.Rows(next, 200) {
		if string(r.Data) == b {
			return nil, api.ErrThere
		}
	}
	return p.does(p.state.Propose([]byte(b)))
}

func (p *plain) asked(w waits) ([]api.Msg, api.Errno) {
	var others []waits
	for _, q := range p.waits {
		if q.from != w.from || q.epoch != w.epoch || q.nonce != w.nonce {
			others = append(others, q)
		}
	}
	if len(others) >= 12 {
		return nil, api.ErrFull
	}
	p.own++
	l, e := p.does(p.state.Ask(p.own))
	if e == api.OK {
		w.own = p.own
		p.waits = append(others, w)
	}
	return l, e
}

// pair is a master, and what it should be.
type pair struct {
	*testing.T
	id int
	d  *disk.Disk
	m  *master.Master
	p  *plain
}

// open opens both on what a disk has; the plain one is made of what the other one tells, which other tests look at.
func open(t *testing.T, id int, d *disk.Disk, nodes []api.Member, timeout int) *pair {
	t.Helper()
	p := &plain{id: id, d: d.Clone()}
	m, e := master.Open(id, d, nodes, timeout)
	if e != api.OK || m == nil {
		t.Fatal(e)
	}
	p.tape, _ = tape.Open(p.d)
	p.ledger, _ = ledger.New(nodes...)
	p.state, e = raft.New(id, m.View().Hard, m.Rows(), timeout)
	if e != api.OK {
		t.Fatal(e)
	}
	x := &pair{t, id, d, m, p}
	x.looks("open")
	return x
}

// fresh is one on an empty disk.
func fresh(t *testing.T, id int) *pair {
	t.Helper()
	return open(t, id, newDisk(t, 1<<18), two(), 0)
}

// arm lets the power of both disks go behind so many bytes.
func (x *pair) arm(n int, keep ...int) {
	x.d.Arm(n, keep...)
	x.p.d.Arm(n, keep...)
}

// spoil writes over a list, and the room behind its end: nothing may hang on what was answered, or handed in.
func spoil[T any](l []T, bad T) {
	l = l[:cap(l)]
	for i := range l {
		l[i] = bad
	}
}

// same holds frames against messages, and the master against what it should be.
func (x *pair) same(what string, l []api.Frame, e api.Errno, want []api.Msg, no api.Errno) {
	x.Helper()
	if e != no || len(l) != len(want) {
		x.Fatalf("%s: %v %d, not %+v %d", what, l, e, want, no)
	}
	for i, f := range l {
		if f.From != want[i].From || f.To != want[i].To || !bytes.Equal(f.Data, bytesOf(x.T, want[i])) {
			x.Fatalf("%s: %v, not %+v", what, f, want[i])
		}
		spoil(f.Data, '#')
	}
	spoil(l, api.Frame{From: -9})
	x.looks(what)
}

// looks holds what the master tells of itself, and its disk, against what they should be.
func (x *pair) looks(what string) {
	x.Helper()
	v, c, rows := x.m.View(), x.m.Chain(), x.m.Rows()
	if x.p.state == nil {
		if v != (api.View{}) || c.Epoch != 0 || c.Members != nil || rows != nil {
			x.Fatalf("%s: it stands still, and tells %v %v %v", what, v, c, rows)
		}
		return
	}
	if v != x.p.state.View() || fmt.Sprint(c) != fmt.Sprint(x.p.ledger.Chain()) || fmt.Sprint(rows) != fmt.Sprint(x.p.state.Rows(1, 200)) {
		x.Fatalf("%s: %v %v %v, not %v %v %v", what, v, c, rows, x.p.state.View(), x.p.ledger.Chain(), x.p.state.Rows(1, 200))
	}
	for i := range api.MaxFiles {
		b, e := x.d.Read(i)
		if want, no := x.p.d.Read(i); !bytes.Equal(b, want) || e != no {
			x.Fatalf("%s: file %d is %q, not %q", what, i, b, want)
		}
	}
	spoil(c.Members, api.Member{Node: -9})
	for _, r := range rows {
		spoil(r.Data, '#')
	}
	spoil(rows, api.Row{Term: -9})
}

// take hands a message in, with room behind its bytes.
func (x *pair) take(m api.Msg) ([]api.Msg, api.Errno) {
	x.Helper()
	b := bytesOf(x.T, m)
	was := slices.Clone(b)
	b = append(b, "behind"...)
	l, e := x.m.Take(b[:len(was)])
	if string(b) != string(was)+"behind" {
		x.Fatalf("%+v: what was handed in is another one", m)
	}
	spoil(b, '#')
	want, no := x.p.take(m)
	x.same(fmt.Sprintf("take %+v", m), l, e, want, no)
	return want, e
}

func (x *pair) tick(timeout int) ([]api.Msg, api.Errno) {
	x.Helper()
	l, e := x.m.Tick(timeout)
	want, no := x.p.tick(timeout)
	x.same(fmt.Sprint("tick ", timeout), l, e, want, no)
	return want, e
}

// tells is that somebody tells it a command.
func (x *pair) tells(c api.Command) ([]api.Msg, api.Errno) {
	x.Helper()
	return x.take(api.Msg{Kind: api.MTell, From: 5, To: 6 + x.id, Cmd: c})
}

// asks is that somebody asks it for the chain.
func (x *pair) asks(from, epoch, nonce int) ([]api.Msg, api.Errno) {
	x.Helper()
	return x.take(api.Msg{Kind: api.MSure, From: from, To: 6 + x.id, Epoch: epoch, Nonce: nonce})
}

// leader is master 0 that leads in term 1: it has row 1, and committed it, if most have said so.
func leader(t *testing.T, committed bool) *pair {
	t.Helper()
	x := fresh(t, 0)
	x.stands()
	if committed {
		x.fed(1, 1, 0)
	}
	if v := x.m.View(); v.Role != api.Leads || v.Hard != (api.Hard{Term: 1, Vote: 0}) || v.Len != 1 {
		t.Fatal(v)
	}
	return x
}

// stands lets it be chosen by master 1.
func (x *pair) stands() {
	x.Helper()
	for range 4 {
		x.tick(0)
	}
	x.take(api.Msg{Kind: api.MGrant, From: 7, To: 6, Term: x.m.View().Hard.Term, Yes: true})
}

// fed is that another master has all rows up to an index, and heard of a round.
func (x *pair) fed(from, index, round int) []api.Msg {
	x.Helper()
	l, e := x.take(api.Msg{Kind: api.MFed, From: 6 + from, To: 6 + x.id, Term: x.m.View().Hard.Term, Index: index, Round: round, Yes: true})
	if e != api.OK {
		x.Fatal(e)
	}
	return l
}

// kinds is the kinds of messages, and where they go.
func kinds(l []api.Msg) string {
	var s []string
	for _, m := range l {
		s = append(s, fmt.Sprintf("%d>%d", m.Kind, m.To))
	}
	return fmt.Sprint(s)
}
