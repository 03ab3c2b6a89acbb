package node_test

import (
	"fmt"
	"math"
	"testing"

	"towline/api"
	"towline/disk"
	"towline/node"
	"towline/proto"
	"towline/tape"
)

const top = 1 << 40

// The chapter's example.
func TestExample(t *testing.T) {
	x := fresh(t, 0)
	if l, e := x.tick(); len(l) != 0 || e != api.OK {
		t.Fatal(l, e)
	}
	x.adopts(row(1, 0))
	if s, era := x.n.Stored(); s == nil || era != 1 {
		t.Fatal(era)
	}
	x = x.crash()
	if s := x.n.State(); s.Era() != 1 || s.Chain().Epoch != 0 {
		t.Fatal(s.Era(), s.Chain())
	}
	l, e := x.tick()
	if e != api.OK || len(l) != 3 {
		t.Fatal(l, e)
	}
	for i, m := range l {
		if m.Kind != api.MTell || m.From != 0 || m.To != 6+i || m.Cmd != (api.Command{Kind: api.CAgain, Node: 0, Epoch: 1}) {
			t.Error(m)
		}
	}
}

// noted is a disk whose tape has a base, and notes.
func noted(t *testing.T, base string, notes ...string) *disk.Disk {
	t.Helper()
	d := newDisk(t, 1<<16)
	x, e := tape.Open(d)
	if e != api.OK {
		t.Fatal(e)
	}
	var l [][]byte
	for _, s := range notes {
		l = append(l, []byte(s))
	}
	if e := x.Save([]byte(base), l...); e != api.OK {
		t.Fatal(e)
	}
	return d
}

// P19.1: why there is no node, the store's errors first.
func TestOpen(t *testing.T) {
	down := newDisk(t, 100)
	down.Crash()
	blown := newDisk(t, 100)
	blown.Arm(3)
	for name, c := range map[string]struct {
		d *disk.Disk
		e api.Errno // api.OK: the disk is right
	}{
		"empty":     {newDisk(t, 100), api.OK},
		"era 2":     {noted(t, "", "\x03\x02"), api.OK},
		"no disk":   {nil, api.ErrNil},
		"by hand":   {&disk.Disk{}, api.ErrNil},
		"down":      {down, api.ErrDown},
		"goes down": {blown, api.ErrDown},
		"no room":   {newDisk(t, 3), api.ErrFull},
		"no base":   {noted(t, "\x01"), api.ErrStore},
		"no note":   {noted(t, "", "\x09"), api.ErrStore},
		"no era":    {noted(t, "", "\x03\x02", "\x03\x02"), api.ErrStore},
	} {
		for _, a := range []struct {
			id  int
			key string
			e   api.Errno
		}{
			{0, secret, api.OK}, {5, secret, api.OK}, {-1, secret, api.ErrArg}, {6, secret, api.ErrArg}, {math.MinInt, secret, api.ErrArg},
			{0, "", api.ErrArg}, {0, secret[1:], api.ErrArg}, {0, secret + "g", api.ErrArg},
		} {
			want := a.e
			if c.e != api.OK {
				want = c.e
			}
			n, e := node.Open(a.id, []byte(a.key), c.d.Clone())
			if name == "by hand" {
				n, e = node.Open(a.id, []byte(a.key), c.d)
			}
			if e != want || (n != nil) != (want == api.OK) {
				t.Errorf("%s, %d, %q: %v %d, not %d", name, a.id, a.key, n, e, want)
			}
			if n != nil && (n.State() == nil || n.State().Chain().Epoch != 0 || n.State().Era() != map[string]int{"era 2": 2}[name]) {
				t.Errorf("%s: %d", name, n.State().Era())
			}
		}
	}
}

// P19.1: what was stored is there, and what a node tells of that is one's own.
func TestStored(t *testing.T) {
	x := fresh(t, 2)
	x.adopts(row(3, 2, 4))
	x.writes(1, 1, "a", "x")
	x.writes(1, 2, "a", "y")
	was := storedBy(x.n)
	s, era := x.n.Stored()
	if last, _ := s.Last(); era != 3 || last != 2 || s.Top(key("a")).Value != "y" || s.Commit() != 0 {
		t.Fatal(era, last)
	}
	s.Cut(0)
	if storedBy(x.n) != was || x.n.State() != x.n.State() {
		t.Error("it is not one's own")
	}
	x = x.crash()
	if storedBy(x.n) != was {
		t.Error(storedBy(x.n))
	}
	if n := x.n.State().Shelf(); n.Top(key("a")).Ver != 2 {
		t.Error(n.Top(key("a")))
	}
}

// P19.1: the key that it is opened with is neither kept nor changed.
func TestKey(t *testing.T) {
	k := []byte(secret + "behind")
	n, e := node.Open(0, k[:16], newDisk(t, 1000))
	if e != api.OK || string(k) != secret+"behind" {
		t.Fatal(e, k)
	}
	spoil(k, '#')
	n.Take(bytesOf(t, api.Msg{Kind: api.MChain, From: 6, To: 0, Chain: row(1, 0)}))
	l, e := n.Take(bytesOf(t, api.Msg{Kind: api.MWrite, From: 9, To: 0, Req: api.Req{Seq: 1}, Key: key("a"), Value: "x"}))
	if e != api.OK || len(l) != 1 {
		t.Fatal(l, e)
	}
	y := fresh(t, 0)
	y.adopts(row(1, 0))
	m, _ := proto.Get(l[0].Data)
	if want := y.writes(0, 1, "a", "x")[0]; string(m.Pass) != string(want.Pass) {
		t.Error(m, want)
	}
}

// P19.2: a write goes down and comes up, kept ahead of that.
func TestWrite(t *testing.T) {
	n := []*pair{fresh(t, 0), fresh(t, 1)}
	var done []api.Msg
	var run func(l []api.Msg)
	run = func(l []api.Msg) {
		for _, m := range l {
			if m.To > 1 {
				done = append(done, m)
				continue
			}
			for _, x := range m.Recs {
				if s, _ := n[m.From].n.Stored(); s.Top(x.Key).Ver < x.Ver {
					t.Error("it is said, and not kept", x)
				}
			}
			out, e := n[m.To].take(m)
			if e != api.OK {
				t.Fatal(m, e)
			}
			run(out)
		}
	}
	run(n[1].adopts(row(1, 0, 1)))
	run(n[0].adopts(row(1, 0, 1)))
	run(n[0].writes(0, 1, "a", "x"))
	if len(done) != 1 || done[0].Kind != api.MDone || done[0].To != 9 || done[0].Ver != 1 || len(done[0].Pass) == 0 {
		t.Error(done)
	}
	for _, x := range n {
		if s, _ := x.crash().n.Stored(); s.Top(key("a")).Value != "x" {
			t.Error("it is not kept")
		}
	}
}

// P19.2: what has an error says nothing, and changes nothing.
func TestTakeErrors(t *testing.T) {
	x := fresh(t, 1)
	x.adopts(row(2, 0, 1, 2))
	for name, c := range map[string]struct {
		m api.Msg
		e api.Errno
	}{
		"to another":    {api.Msg{Kind: api.MChain, From: 6, To: 0, Chain: row(9, 1)}, api.ErrMsg},
		"of no master":  {api.Msg{Kind: api.MChain, From: 0, To: 1, Chain: row(9, 1)}, api.ErrMsg},
		"of masters":    {api.Msg{Kind: api.MGrant, From: 6, To: 1, Term: 1}, api.ErrMsg},
		"to masters":    {api.Msg{Kind: api.MSure, From: 0, To: 1}, api.ErrMsg},
		"other client":  {api.Msg{Kind: api.MRead, From: 9, To: 1, Req: api.Req{Client: 1, Seq: 1}, Key: key("a")}, api.ErrMsg},
		"other epoch":   {api.Msg{Kind: api.MAck, From: 2, To: 1, Epoch: 1, Commit: 1}, api.ErrEpoch},
		"not from back": {api.Msg{Kind: api.MPut, From: 2, To: 1, Epoch: 2}, api.ErrStale},
	} {
		on := x.d.Clone()
		l, e := x.take(c.m)
		if e != c.e || len(l) != 0 {
			t.Errorf("%s: %v %d, not %d", name, l, e, c.e)
		}
		for i := range api.MaxFiles {
			was, _ := on.Read(i)
			if b, _ := x.d.Read(i); string(b) != string(was) {
				t.Errorf("%s: its disk is another one", name)
			}
		}
	}
	for _, b := range [][]byte{nil, {}, {0}, make([]byte, 9000)} {
		if l, e := x.n.Take(b); l != nil || e != api.ErrMsg {
			t.Error(l, e)
		}
		x.looks("no message")
	}
	right := bytesOf(t, x.write(0, 1, "a", "x"))
	for i := range right {
		b := append([]byte(nil), right...)
		b[i] ^= 4
		if l, e := x.n.Take(b); l != nil || e != api.ErrMsg {
			t.Error(i, l, e)
		}
	}
	if l, e := x.n.Take(append(right, 0)); l != nil || e != api.ErrMsg {
		t.Error(l, e)
	}
	x.looks("turned bytes")
}

// P19.2: what is no message is left out: a tail that was told as whole asks itself.
func TestLeftOut(t *testing.T) {
	x := fresh(t, 1)
	x.adopts(row(1, 1, 0))
	x.writes(0, 1, "a", "x")
	x = x.crash()
	c := row(2, 0, 1)
	c.Members[1].Fresh = true
	x.adopts(c)
	x.adopts(row(2, 0, 1))
	read := api.Msg{Kind: api.MRead, From: 10, To: 1, Req: api.Req{Client: 1, Seq: 1}, Key: key("a")}
	if l, e := x.take(read); e != api.OK || len(l) != 0 {
		t.Fatal(l, e)
	}
	if f := x.p.last; len(f.Send) != 1 || f.Send[0].Kind != api.MAsk || f.Send[0].To != 1 {
		t.Fatalf("%+v", f)
	}
	l, e := x.tick()
	if e != api.OK || len(l) != 1 || l[0].Kind != api.MAck || len(x.p.last.Send) != 2 {
		t.Fatal(l, e)
	}
}

// commands is some that may be.
func commands() []api.Command {
	return []api.Command{
		{Kind: api.CDead, Node: 0, Epoch: 1}, {Kind: api.CDead, Node: 5, Epoch: top}, {Kind: api.CAgain, Node: 3, Epoch: 7},
		{Kind: api.CJoin, Node: 0, Site: 2, Epoch: 1}, {Kind: api.CJoin, Node: 5, Epoch: 2}, {Kind: api.CSite, Site: 2, Epoch: 9}, {Kind: api.CSite, Epoch: 1},
	}
}

// tells fails, unless frames tell a command to three masters.
func tells(t *testing.T, l []api.Frame, e api.Errno, from int, c api.Command) {
	t.Helper()
	if e != api.OK || len(l) != 3 {
		t.Fatal(c, l, e)
	}
	for i, f := range l {
		want := bytesOf(t, api.Msg{Kind: api.MTell, From: from, To: 6 + i, Cmd: c})
		if f.From != from || f.To != 6+i || string(f.Data) != string(want) {
			t.Error(c, f)
		}
		spoil(f.Data, '#')
	}
}

// P19.2: Report tells masters what may be, but for what a node alone knows.
func TestReport(t *testing.T) {
	x := fresh(t, 4)
	for _, c := range commands() {
		l, e := x.n.Report(c)
		tells(t, l, e, 4, c)
	}
	for _, c := range []api.Command{
		{}, {Kind: 6, Epoch: 1}, {Kind: -1, Epoch: 1}, {Kind: api.CDead, Node: 6, Epoch: 1}, {Kind: api.CDead, Node: -1, Epoch: 1}, {Kind: api.CDead},
		{Kind: api.CDead, Epoch: top + 1}, {Kind: api.CDead, Site: 1, Epoch: 1}, {Kind: api.CSite, Site: 3, Epoch: 1}, {Kind: api.CSite, Node: 1, Epoch: 1},
		{Kind: api.CReady, Node: 4, Epoch: 1}, {Kind: api.CReady, Node: 0, Epoch: 3}, {Kind: api.CReady, Node: 9, Epoch: 1}, {Kind: api.CReady},
	} {
		if l, e := x.n.Report(c); l != nil || e != api.ErrCommand {
			t.Error(c, l, e)
		}
	}
	x.looks("report")
}

// P19.2: Join is that of itself.
func TestJoin(t *testing.T) {
	for id := range 6 {
		x := fresh(t, id)
		for site := range 3 {
			for _, epoch := range []int{1, 2, top} {
				l, e := x.n.Join(site, epoch)
				tells(t, l, e, id, api.Command{Kind: api.CJoin, Node: id, Site: site, Epoch: epoch})
			}
		}
		for _, a := range [][2]int{{-1, 1}, {3, 1}, {math.MaxInt, 1}, {0, 0}, {0, -1}, {0, top + 1}, {math.MinInt, math.MinInt}} {
			if l, e := x.n.Join(a[0], a[1]); l != nil || e != api.ErrCommand {
				t.Error(a, l, e)
			}
		}
		x.looks("join")
	}
}

// silent fails, unless a node says nothing, whatever it is asked.
func silent(t *testing.T, n *node.Node) {
	t.Helper()
	if s, era := n.Stored(); n.State() != nil || s != nil || era != 0 {
		t.Error("told", era)
	}
	for what, ask := range map[string]func() ([]api.Frame, api.Errno){
		"take": func() ([]api.Frame, api.Errno) {
			return n.Take(bytesOf(t, api.Msg{Kind: api.MChain, From: 6, To: 0, Chain: row(9, 0)}))
		},
		"bad take":   func() ([]api.Frame, api.Errno) { return n.Take(nil) },
		"tick":       n.Tick,
		"join":       func() ([]api.Frame, api.Errno) { return n.Join(0, 1) },
		"bad join":   func() ([]api.Frame, api.Errno) { return n.Join(9, 1) },
		"report":     func() ([]api.Frame, api.Errno) { return n.Report(commands()[0]) },
		"bad report": func() ([]api.Frame, api.Errno) { return n.Report(api.Command{Kind: api.CReady}) },
	} {
		if l, e := ask(); l != nil || e != api.ErrNil {
			t.Error(what, l, e)
		}
	}
}

// The rule Objects.
func TestObjects(t *testing.T) {
	silent(t, nil)
	silent(t, &node.Node{})
}

// A node whose power is off says what needs nothing to be kept.
func TestNothingToKeep(t *testing.T) {
	x := fresh(t, 0)
	x.adopts(row(1, 0, 1))
	x.d.Crash()
	x.p.d.Crash()
	if l, e := x.tick(); e != api.OK || len(l) != 1 {
		t.Error(l, e)
	}
	if l, e := x.n.Join(1, 2); e != api.OK || len(l) != 3 {
		t.Error(l, e)
	}
	if _, e := x.take(x.write(0, 1, "a", "x")); e != api.ErrDown {
		t.Error(e)
	}
	silent(t, x.n)
}

// busy is the head of two, with three records, of which the tail has two.
func busy(t *testing.T, room int) *pair {
	t.Helper()
	x := open(t, 0, newDisk(t, room))
	x.adopts(row(2, 0, 1))
	for i := range 3 {
		x.writes(0, i+1, "a", fmt.Sprint("v", i))
	}
	x.take(api.Msg{Kind: api.MAck, From: 1, To: 0, Epoch: 2, Commit: 2})
	return x
}

// P19.3, P19.4: the power goes at every byte of what is kept: then it says nothing any more; opened once more it has all that it had, or all of that step.
func TestPower(t *testing.T) {
	for name, m := range map[string]api.Msg{
		"record": {Kind: api.MWrite, From: 10, To: 0, Req: api.Req{Client: 1, Seq: 1}, Key: key("b"), Value: "w"},
		"era":    {Kind: api.MChain, From: 8, To: 0, Chain: row(7, 0)},
	} {
		x := busy(t, 1<<16)
		was := storedBy(x.n)
		l, e := x.take(m)
		all := storedBy(x.n)
		if e != api.OK || len(l) == 0 || all == was || storedBy(x.crash().n) != all {
			t.Fatalf("%s: %v %d, %s", name, l, e, all)
		}
		for _, keep := range [][]int{nil, {0, 0}, {5, 5}, {99, 99}} {
			if downs := blow(t, m, was, all, keep); downs < 5 {
				t.Error(name, downs)
			}
		}
	}
}

// blow arms fuses of one byte and more, up to one that outlasts a message, and is how many did not.
func blow(t *testing.T, m api.Msg, was, all string, keep []int) int {
	t.Helper()
	for fuse := 1; ; fuse++ {
		x := busy(t, 1<<16)
		x.arm(fuse, keep...)
		l, e := x.take(m)
		if e == api.OK {
			return fuse - 1
		}
		if e != api.ErrDown || len(l) != 0 {
			t.Fatal(fuse, l, e)
		}
		silent(t, x.n)
		x.d.Start()
		silent(t, x.n)
		if got := storedBy(open(t, 0, x.d).n); got != was && got != all {
			t.Errorf("fuse %d: %s, was %s", fuse, got, was)
		}
		silent(t, x.n)
	}
}

// P19.4: a node without room stands still, too; what it had is there.
func TestNoRoom(t *testing.T) {
	used := busy(t, 1<<16).d.Used()
	x := busy(t, used+5)
	was := storedBy(x.n)
	if l, e := x.take(x.write(1, 1, "b", "w")); e != api.ErrFull || len(l) != 0 {
		t.Fatal(l, e)
	}
	silent(t, x.n)
	if got := storedBy(x.crash().n); got != was {
		t.Error(got, was)
	}
}

// Two nodes know nothing of one another.
func TestApart(t *testing.T) {
	x, y := fresh(t, 0), fresh(t, 0)
	x.adopts(row(4, 0))
	x.writes(0, 1, "a", "x")
	if s, era := y.n.Stored(); era != 0 || y.n.State().Era() != 0 || s.Top(key("a")).Ver != 0 {
		t.Error(era)
	}
}
