package world_test

import (
	"fmt"
	"math"
	"math/rand/v2"
	"reflect"
	"testing"

	"towline/api"
	"towline/client"
	"towline/disk"
	"towline/links"
	"towline/mask"
	"towline/master"
	"towline/node"
	"towline/world"
)

// plain is a world by the chapter's words, kind by kind.
type plain struct {
	key     []byte
	first   []api.Member
	net     *links.Net
	disks   [9]*disk.Disk
	nodes   map[int]*node.Node
	masters map[int]*master.Master
	clients map[int]*client.Client
	time    int
}

func newPlain(first []api.Member) *plain {
	p := &plain{key: secret, first: first, net: links.New(), nodes: map[int]*node.Node{}, masters: map[int]*master.Master{}, clients: map[int]*client.Client{}}
	for i := range 9 {
		p.disks[i], _ = disk.New(1 << 20)
		p.open(i, []int{0, 0, 0, 0, 0, 0, 0, 1, 2}[i])
	}
	for i := range 4 {
		p.clients[i], _ = client.New(i)
	}
	return p
}

func (p *plain) open(place, timeout int) api.Errno {
	if place < 6 {
		n, e := node.Open(place, p.key, p.disks[place])
		if e == api.OK {
			p.nodes[place] = n
		}
		return e
	}
	m, e := master.Open(place-6, p.disks[place], p.first, timeout)
	if e == api.OK {
		p.masters[place-6] = m
	}
	return e
}

func (p *plain) close(place int) {
	delete(p.nodes, place)
	delete(p.masters, place-6)
}

func (p *plain) runs(place int) bool { return p.nodes[place] != nil || p.masters[place-6] != nil }

// tell is that somebody at a place told something.
func (p *plain) tell(place int, l []api.Frame, e api.Errno) api.Errno {
	if e == api.ErrDown {
		p.close(place)
	}
	for _, f := range l {
		p.net.Send(api.Link{From: f.From, To: f.To}, f.Data)
	}
	return e
}

func (p *plain) step(s api.Step) api.Errno {
	p.time++
	n, m, c := p.nodes[s.From], p.masters[s.From-6], p.clients[s.From]
	switch s.Kind {
	case 1:
		return p.take(api.Link{From: s.From, To: s.To}, s.N)
	case 2:
		return p.net.Lose(api.Link{From: s.From, To: s.To}, s.N)
	case 3:
		return p.net.Double(api.Link{From: s.From, To: s.To}, s.N)
	case 4:
		return p.net.Wall(mask.Set(uint64(s.N) % 8192))
	case 5, 6, 8:
		if n == nil && m == nil {
			return api.ErrStep
		}
		if s.Kind == 6 {
			p.close(s.From)
			return p.disks[s.From].Crash(s.N, s.N)
		}
		if s.Kind == 8 {
			return p.disks[s.From].Arm(s.N, s.To, s.To)
		}
		if n != nil {
			l, e := n.Tick()
			return p.tell(s.From, l, e)
		}
		l, e := m.Tick(s.Timeout)
		return p.tell(s.From, l, e)
	case 7:
		if s.From < 0 || s.From > 8 || p.runs(s.From) {
			return api.ErrStep
		}
		p.disks[s.From].Start()
		if s.Timeout < 0 || s.Timeout > 7 {
			return api.ErrArg
		}
		return p.open(s.From, s.Timeout)
	case 9, 10, 11, 12, 15:
		if c == nil {
			return api.ErrStep
		}
		return p.ask(c, s)
	case 13, 14:
		if n == nil {
			return api.ErrStep
		}
		if s.Kind == 13 {
			l, e := n.Report(s.Cmd)
			return p.tell(s.From, l, e)
		}
		l, e := n.Join(s.To, s.N)
		return p.tell(s.From, l, e)
	}
	return api.ErrStep
}

func (p *plain) take(l api.Link, i int) api.Errno {
	b, ok, e := p.net.Take(l, i)
	if e != api.OK || !ok {
		return e
	}
	if c := p.clients[l.To-9]; c != nil {
		out, e := c.Take(b, p.time)
		return p.tell(l.To, out, e)
	}
	if n := p.nodes[l.To]; n != nil {
		out, e := n.Take(b)
		return p.tell(l.To, out, e)
	}
	if m := p.masters[l.To-6]; m != nil {
		out, e := m.Take(b)
		return p.tell(l.To, out, e)
	}
	return api.ErrDown
}

func (p *plain) ask(c *client.Client, s api.Step) api.Errno {
	var l []api.Frame
	e := api.OK
	switch s.Kind {
	case 9:
		l, e = c.Write(s.To, s.Key, s.Value, p.time)
	case 10:
		l, e = c.Read(s.To, s.Key, s.Mode, s.Bound, p.time)
	case 11:
		l, e = c.Again(s.To)
	case 12:
		e = c.Drop()
	case 15:
		e = c.Fresh()
	}
	return p.tell(9+s.From, l, e)
}

// lies is what lies on a disk, and what its fuse does to it.
func lies(d *disk.Disk) string {
	if d == nil {
		return "none"
	}
	text := fmt.Sprint(d.Used())
	for i := range api.MaxFiles {
		b, e := d.Read(i)
		text += fmt.Sprintf(" %x %d", b, e)
	}
	d.Append(0, []byte("abc"))
	d.Append(1, []byte("def"))
	text += fmt.Sprint(" burnt: ", d.Append(1, make([]byte, 80)), d.Crash(-1), d.Start(), d.Used())
	for i := range 2 {
		b, e := d.Read(i)
		text += fmt.Sprintf(" %x %d", b, e)
	}
	return text
}

// ways is all that is on its way, and what the wall does to it.
func ways(n *links.Net) string {
	text := fmt.Sprint(n.Lost())
	for _, l := range n.Busy() {
		for n.Len(l) > 0 {
			b, ok, e := n.Take(l, 0)
			text += fmt.Sprintf(" %v %x %v %d", l, b, ok, e)
		}
	}
	for from := range 32 {
		l := api.Link{From: from, To: (from + 1) % 32}
		n.Send(l, nil)
		_, ok, _ := n.Take(l, 0)
		text += fmt.Sprint(" ", ok)
	}
	return text
}

func nodeText(n *node.Node) string {
	if n == nil {
		return "does not run"
	}
	st := n.State()
	if st == nil {
		return "stands still"
	}
	writes, reads := st.Waiting()
	return fmt.Sprint(st.Chain(), st.Whole(), st.Shelf().Commit(), keptOf(st.Shelf(), st.Era()), keptOf(n.Stored()), writes, reads)
}

func masterText(m *master.Master) string {
	if m == nil {
		return "does not run"
	}
	return fmt.Sprint(m.View(), m.Chain(), m.Rows())
}

// text is all that a world is told as, but for its disks.
func text(w *world.World) string {
	t := fmt.Sprint(w.Time(), " ", w.Calls(), ways(w.Net()))
	for i := range nodes {
		t += "\n" + nodeText(w.Node(i))
	}
	for i := range api.Masters {
		t += "\n" + masterText(w.Master(i))
	}
	for i := range api.MaxClients {
		t += fmt.Sprint("\n", w.Client(i).Busy(), w.Client(i).Chain())
	}
	return t
}

func (p *plain) calls() []api.Call {
	var l []api.Call
	for i := range api.MaxClients {
		l = append(l, p.clients[i].Calls()...)
	}
	return l
}

func (p *plain) text() string {
	t := fmt.Sprint(p.time, " ", p.calls(), ways(p.net.Clone()))
	for i := range nodes {
		t += "\n" + nodeText(p.nodes[i])
	}
	for i := range api.Masters {
		t += "\n" + masterText(p.masters[i])
	}
	for i := range api.MaxClients {
		t += fmt.Sprint("\n", p.clients[i].Busy(), p.clients[i].Chain())
	}
	return t
}

// odd is numbers at and beyond edges.
var odd = []int{math.MinInt, -1 << 40, -9, -6, -1, 0, 1, 3, 4, 5, 6, 7, 8, 9, 12, 13, 16, 31, 32, 1 << 13, 1 << 40, 1<<40 + 1, math.MaxInt}

// spoilt is a step with a number that may be anything.
func spoilt(r *rand.Rand, s api.Step) api.Step {
	n := odd[r.IntN(len(odd))]
	if s.Kind == api.SStart {
		s.Timeout = n
		return s
	}
	switch r.IntN(8) {
	case 0:
		s.Kind = n
	case 1:
		s.From = n
	case 2:
		s.To = n
	case 3:
		s.N = n
	case 4:
		s.Timeout, s.Cmd.Epoch = n, n
	case 5:
		s.Key = api.Key{0, 'a'}
	case 6:
		s.Value = []string{"", "\xff", "1234567890123456789012345"}[r.IntN(3)]
	case 7:
		s.Mode, s.Bound = n, odd[r.IntN(len(odd))]
	}
	return s
}

// pair is a world, and the plain one that it is held against.
type pair struct {
	*testing.T
	maker
	plain  *plain
	counts map[string]int
}

func newPair(t *testing.T, r *rand.Rand, counts map[string]int) *pair {
	t.Helper()
	members := first(r)
	w, e := world.New(secret, members...)
	if e != api.OK {
		t.Fatal(members, e)
	}
	return &pair{T: t, maker: maker{Rand: r, World: w}, plain: newPlain(members), counts: counts}
}

func (p *pair) do(s api.Step) {
	p.Helper()
	got, want := p.Step(s), p.plain.step(s)
	if got != want {
		p.Fatalf("step %d, %+v: %d, not %d", p.Time(), s, got, want)
	}
	p.counts[fmt.Sprint(s.Kind, " ", int(got))]++
	if got, want := text(p.World), p.plain.text(); got != want {
		p.Fatalf("step %d, %+v:\n%s\nnot\n%s", p.Time(), s, got, want)
	}
	if p.Time()%20 == 0 || got == api.ErrDown {
		p.lies()
	}
}

func (p *pair) lies() {
	p.Helper()
	for place, d := range p.plain.disks {
		if got, want := lies(p.Disk(place)), lies(d.Clone()); got != want {
			p.Fatalf("step %d: disk %d: %s, not %s", p.Time(), place, got, want)
		}
	}
}

// P22.1, P22.2: a plain model of the chapter's words is held against a world, step by step.
func TestModel(t *testing.T) {
	t.Parallel()
	counts := map[string]int{}
	for seed := range uint64(12) {
		r := rand.New(rand.NewPCG(seed, 221))
		p := newPair(t, r, counts)
		for i := range 800 {
			var s api.Step
			switch r.IntN(12) {
			case 0:
				s = spoilt(r, p.next(moods[i/100%len(moods)]))
			case 1, 2, 3, 4, 5:
				s = p.any(several)
			default:
				s = p.next(moods[i/100%len(moods)])
			}
			p.do(s)
		}
		p.lies()
		if !reflect.DeepEqual(p.Calls(), p.plain.calls()) {
			t.Fatal(seed)
		}
	}
	for _, s := range []string{
		"1 0", "1 40", "1 50", "1 150", "1 151", "1 153", "2 0", "2 40", "3 0", "3 7", "3 40", "4 0", "5 0", "5 1", "5 50", "5 190", "6 0", "6 190",
		"7 0", "7 1", "7 190", "8 0", "8 1", "8 190", "9 0", "9 91", "9 180", "9 190", "10 0", "10 1", "10 91", "10 180", "10 190",
		"11 0", "11 1", "11 92", "11 190", "12 0", "12 92", "12 190", "13 0", "13 120", "13 190", "14 0", "14 190", "15 0", "15 180", "0 190", "16 190", "-1 190",
	} {
		if counts[s] == 0 {
			t.Errorf("no step of kind, and with the error: %s", s)
		}
	}
}
