package world_test

import (
	"fmt"
	"math/rand/v2"
	"slices"
	"testing"

	"towline/api"
)

// town is a watched world in which master 0 leads, and all nodes know the chain, and of one another.
func town(t *testing.T, members ...api.Member) *watch {
	t.Helper()
	x := newWatch(t, rand.New(rand.NewPCG(1, 2)), map[string]int{}, members...)
	for _, place := range []int{6, 6, 6, 6, 6, 0, 1, 2, 3, 4, 5} {
		x.ok(api.Step{Kind: api.STick, From: place})
		x.carry()
	}
	return x
}

func (x *watch) ok(s api.Step) {
	x.Helper()
	if e := x.do(s); e != api.OK {
		x.fail("%+v: %d", s, e)
	}
}

// takes lets the only message of a link come.
func (x *watch) takes(from, to int) api.Msg {
	x.Helper()
	l := messages(x.T, x.World, from, to)
	if len(l) != 1 {
		x.fail("from %d to %d: %v", from, to, l)
	}
	x.ok(api.Step{Kind: api.STake, From: from, To: to})
	return l[0]
}

func (x *watch) last(client int) api.Call { return lastCall(x.World, client) }

var three = []api.Member{{Node: 0}, {Node: 1, Site: 1}, {Node: 2, Site: 2}}

// DOC.md, example 1: a write goes down three nodes, is committed at the tail, and comes up.
func TestDownAndUp(t *testing.T) {
	x := town(t, three...)
	x.ok(api.Step{Kind: api.SWrite, From: 0, To: 0, Key: key("a"), Value: "x"})
	committed := func(want ...int) {
		t.Helper()
		var got []int
		for i := range 3 {
			got = append(got, x.Node(i).State().Shelf().Commit())
		}
		if !slices.Equal(got, want) {
			t.Fatal(got, want)
		}
	}
	x.takes(9, 0)
	x.takes(0, 1)
	committed(0, 0, 0)
	x.takes(1, 2)
	committed(0, 0, 1)
	for len(messages(t, x.World, 2, 1)) > 0 {
		x.ok(api.Step{Kind: api.STake, From: 2, To: 1})
	}
	committed(0, 1, 1)
	for len(messages(t, x.World, 1, 0)) > 0 {
		x.ok(api.Step{Kind: api.STake, From: 1, To: 0})
	}
	committed(1, 1, 1)
	if m := x.takes(0, 9); m.Kind != api.MDone || m.Ver != 1 {
		t.Error(m)
	}
	if c := x.last(0); c.Ver != 1 || c.Ended != x.Time() {
		t.Error(c)
	}
	x.calm()
}

// DOC.md, example 2: a read at the node in the middle, while a write is on its way.
func TestReadInTheMiddle(t *testing.T) {
	x := town(t, three...)
	x.ok(api.Step{Kind: api.SWrite, From: 0, To: 0, Key: key("a"), Value: "x"})
	x.takes(9, 0)
	x.takes(0, 1)
	x.ok(api.Step{Kind: api.SRead, From: 1, To: 1, Key: key("a")})
	x.takes(10, 1)
	l := messages(t, x.World, 1, 2)
	if len(l) != 2 || l[1].Kind != api.MAsk {
		t.Fatal(l)
	}
	// The tail has not got the write as yet.
	x.ok(api.Step{Kind: api.STake, From: 1, To: 2, N: 1})
	if m := x.takes(2, 1); m.Kind != api.MVer || m.Ver != 0 {
		t.Fatal(m)
	}
	if m := x.takes(1, 6); m.Kind != api.MSure || m.Epoch != 1 {
		t.Fatal(m)
	}
	x.carry()
	if c := x.last(1); c.Ended == 0 || c.Ver != 0 || c.Value != "" || c.Err != api.OK {
		t.Error(c)
	}
	x.ok(api.Step{Kind: api.SRead, From: 1, To: 1, Key: key("a")})
	x.carry()
	if c := x.last(1); c.Ver != 1 || c.Value != "x" {
		t.Error(c)
	}
	x.judged()
	x.calm()
}

// DOC.md, example 3: the head dies; the client asks the next one once more: the same version, once.
func TestHeadDies(t *testing.T) {
	x := town(t, three...)
	x.ok(api.Step{Kind: api.SWrite, From: 0, To: 0, Key: key("a"), Value: "x"})
	x.takes(9, 0)
	x.takes(0, 1)
	x.takes(1, 2)
	x.ok(api.Step{Kind: api.SCrash, From: 0})
	x.ok(api.Step{Kind: api.SReport, From: 2, Cmd: api.Command{Kind: api.CDead, Node: 0, Epoch: 1}})
	x.carry()
	if c := x.Node(1).State().Chain(); c.Epoch != 2 || c.Members[0].Node != 1 {
		t.Fatal(c)
	}
	for range 3 {
		x.ok(api.Step{Kind: api.SAgain, From: 0, To: 1})
	}
	x.carry()
	if c := x.last(0); c.Ver != 1 || c.Err != api.OK || c.Ended == 0 {
		t.Error(c)
	}
	if l := x.log(); len(l) != 1 || l[0].Epoch != 1 {
		t.Error(l)
	}
	x.calm()
}

// DOC.md, examples 4 and 5: a node that is parted from all others tells nothing by a strong read; by an eventual one what is committed there, unless the session has seen a newer one.
func TestParted(t *testing.T) {
	x := town(t, three...)
	x.ok(api.Step{Kind: api.SWrite, From: 0, To: 0, Key: key("a"), Value: "x"})
	x.carry()
	// Node 1 and the clients 1, 2; client 2 has seen more.
	x.ok(api.Step{Kind: api.SReport, From: 0, Cmd: api.Command{Kind: api.CDead, Node: 1, Epoch: 1}})
	x.ok(api.Step{Kind: api.SWall, N: 1 << 1})
	x.carry()
	x.ok(api.Step{Kind: api.SWrite, From: 2, To: 0, Key: key("a"), Value: "y"})
	x.carry()
	if c := x.last(2); c.Ver != 2 {
		t.Fatal(c)
	}
	x.ok(api.Step{Kind: api.SWall, N: 1<<1 | 1<<10 | 1<<11})
	x.ok(api.Step{Kind: api.SRead, From: 1, To: 1, Key: key("a")})
	for range 3 {
		x.carry()
		x.ok(api.Step{Kind: api.STick, From: 1})
	}
	x.carry()
	if c := x.last(1); c.Ended != 0 {
		t.Fatal(c)
	}
	x.ok(api.Step{Kind: api.SDrop, From: 1})
	for i, want := range map[int]int{1: 1, 2: 0} {
		x.ok(api.Step{Kind: api.SRead, From: i, To: 1, Key: key("a"), Mode: api.Eventual})
		x.carry()
		if c := x.last(i); c.Ver != want || (c.Ended != 0) != (want != 0) || want == 1 && c.Value != "x" {
			t.Error(c)
		}
	}
	x.judged()
	x.calm()
}

// DOC.md, example 6: a node crashes in the midst of a record: it asks to be let in, and the epoch is the next one.
func TestMidst(t *testing.T) {
	x := town(t, three...)
	x.ok(api.Step{Kind: api.SWrite, From: 0, To: 0, Key: key("a"), Value: "x"})
	x.takes(9, 0)
	x.ok(api.Step{Kind: api.SArm, From: 1, N: 4, To: 3})
	if e := x.do(api.Step{Kind: api.STake, From: 0, To: 1}); e != api.ErrDown {
		t.Fatal(e)
	}
	x.ok(api.Step{Kind: api.SStart, From: 1})
	x.ok(api.Step{Kind: api.STick, From: 1})
	for to := 6; to < 9; to++ {
		if l := messages(t, x.World, 1, to); len(l) != 1 || l[0].Cmd != (api.Command{Kind: api.CAgain, Node: 1, Epoch: 1}) {
			t.Fatal(l)
		}
	}
	x.carry()
	if c := x.Master(0).Chain(); c.Epoch != 2 || len(c.Members) != 3 {
		t.Fatal(c)
	}
	x.calm()
	if c := x.last(0); c.Ver == 0 && !slices.ContainsFunc(x.Calls(), func(c api.Call) bool { return c.Write && c.Value == "x" && c.Ver == 1 }) {
		t.Error(x.Calls())
	}
}

// DOC.md, example 7: a site's last node joins: it is sent a table, then records; then it has all, and says so.
func TestJoins(t *testing.T) {
	x := town(t, api.Member{Node: 0}, api.Member{Node: 1, Site: 1}, api.Member{Node: 3, Site: 2})
	for i := range 20 {
		x.ok(api.Step{Kind: api.SWrite, From: i % 4, To: 0, Key: key("a"), Value: fmt.Sprint("v", i)})
		x.carry()
	}
	if x.Node(1).State().Shelf().Low() == 0 {
		t.Fatal("nothing was folded")
	}
	x.ok(api.Step{Kind: api.SJoin, From: 2, To: 1, N: 1})
	var kinds []int // of what comes to it along the chain
	for i := range 2000 {
		busy := x.Net().Busy()
		if len(busy) == 0 {
			x.ok(api.Step{Kind: api.STick, From: i % 7})
			continue
		}
		was := messages(t, x.World, busy[0].From, busy[0].To)[0]
		if e := x.do(api.Step{Kind: api.STake, From: was.From, To: was.To}); e == api.OK && was.From == 1 && was.To == 2 {
			kinds = append(kinds, was.Kind)
		}
	}
	if at := slices.Index(kinds, api.MBase); at < 0 || !slices.Contains(kinds[at:], api.MPut) {
		t.Error(kinds)
	}
	c := x.Master(0).Chain()
	if want := []api.Member{{Node: 0}, {Node: 1, Site: 1}, {Node: 2, Site: 1}, {Node: 3, Site: 2}}; c.Epoch != 2 || !slices.Equal(c.Members, want) {
		t.Error(c)
	}
	if s := x.Node(2).State(); !s.Whole() || s.Shelf().Commit() != 20 {
		t.Error(s.Whole(), s.Shelf().Commit())
	}
	x.calm()
}

// DOC.md, example 8: the last node that has all is told as dead: it stays.
func TestStays(t *testing.T) {
	x := town(t, three[0])
	for _, cmd := range []api.Command{{Kind: api.CDead, Epoch: 1}, {Kind: api.CSite, Epoch: 1}} {
		x.ok(api.Step{Kind: api.SReport, From: 4, Cmd: cmd})
		if e := x.do(api.Step{Kind: api.STake, From: 4, To: 6}); e != api.ErrLast {
			t.Error(e)
		}
		x.carry()
		if c := x.Master(0).Chain(); c.Epoch != 1 || len(c.Members) != 1 {
			t.Error(c)
		}
	}
	x.calm()
}

// DOC.md, example 9: a message of an elder epoch comes late: it changes nothing.
func TestLate(t *testing.T) {
	x := town(t, three...)
	x.ok(api.Step{Kind: api.SWrite, From: 0, To: 0, Key: key("a"), Value: "x"})
	x.takes(9, 0)
	x.ok(api.Step{Kind: api.SReport, From: 0, Cmd: api.Command{Kind: api.CDead, Node: 2, Epoch: 1}})
	for len(x.Net().Busy()) > 1 {
		l := slices.DeleteFunc(x.Net().Busy(), func(l api.Link) bool { return l == api.Link{From: 0, To: 1} })
		x.do(api.Step{Kind: api.STake, From: l[0].From, To: l[0].To})
	}
	l := messages(t, x.World, 0, 1)
	if len(l) < 2 || l[0].Kind != api.MPut || l[0].Epoch != 1 || x.Node(1).State().Era() != 2 {
		t.Fatal(l)
	}
	was := nodeText(x.Node(1))
	if e := x.do(api.Step{Kind: api.STake, From: 0, To: 1}); e != api.ErrEpoch || nodeText(x.Node(1)) != was {
		t.Error(e)
	}
	x.calm()
}

// DOC.md, example 10: a thirteenth key is refused, and nothing has changed.
func TestThirteenth(t *testing.T) {
	x := town(t, three...)
	write := func(i int) api.Call {
		x.ok(api.Step{Kind: api.SFresh, From: 0})
		x.ok(api.Step{Kind: api.SWrite, From: 0, To: 0, Key: key(string(rune('a' + i))), Value: "x"})
		x.carry()
		return x.last(0)
	}
	for i := range 12 {
		if c := write(i); c.Ver != 1 || c.Err != api.OK {
			t.Fatal(i, c)
		}
	}
	was := []string{nodeText(x.Node(0)), nodeText(x.Node(1)), nodeText(x.Node(2))}
	if c := write(12); c.Ver != 0 || c.Err != api.ErrFull || c.Ended != x.Time() {
		t.Error(c)
	}
	for i, s := range was {
		if nodeText(x.Node(i)) != s {
			t.Errorf("node %d has changed", i)
		}
	}
	if c := write(3); c.Ver != 2 {
		t.Error(c)
	}
	x.judged()
}

// P1: what is refused for its form changes nothing, also by who takes it.
func TestForm(t *testing.T) {
	x := town(t, three...)
	x.ok(api.Step{Kind: api.SWrite, From: 0, To: 0, Key: key("a"), Value: "x"})
	x.carry()
	was := cutTime(text(x.World))
	for _, s := range []api.Step{
		{Kind: api.SWrite, Key: api.Key{'a', 0, 'b'}, Value: "x"}, {Kind: api.SWrite, Key: api.Key{0xff}, Value: "x"}, {Kind: api.SWrite, Key: key("a"), Value: "1234567890123456789012345"},
		{Kind: api.SWrite, Key: key("a"), Value: "\xff"}, {Kind: api.SRead, Key: api.Key{}}, {Kind: api.SRead, Key: key("a"), Mode: 3}, {Kind: api.SRead, Key: key("a"), Bound: 1<<40 + 1},
	} {
		if e := x.do(s); e == api.OK {
			t.Errorf("%+v", s)
		}
		if got := cutTime(text(x.World)); got != was {
			t.Errorf("%+v:\n%s\nnot\n%s", s, got, was)
		}
	}
	x.calm()
}

// story is a script in which nodes write, die and join; whoever lost its power is started by and by.
func (x *watch) story() {
	x.Helper()
	tick := func() {
		for place := range 7 {
			x.do(api.Step{Kind: api.STick, From: place})
			x.carry()
		}
		for _, place := range x.down() {
			x.ok(api.Step{Kind: api.SStart, From: place})
		}
	}
	ask := func(s api.Step) {
		if x.Client(s.From).Busy() {
			s = api.Step{Kind: api.SAgain, From: s.From, To: s.To}
		}
		x.do(s)
		x.carry()
	}
	for range 5 {
		tick()
	}
	for i := range 18 {
		ask(api.Step{Kind: api.SWrite, From: i % 4, To: i % 3, Key: key(string(rune('a' + i%3))), Value: x.value()})
		ask(api.Step{Kind: api.SRead, From: 1, To: i % 4, Key: key("a"), Mode: i % 3})
		switch i {
		case 5:
			x.do(api.Step{Kind: api.SReport, From: 2, Cmd: api.Command{Kind: api.CDead, Node: 1, Epoch: x.newest().Epoch}})
			x.carry()
		case 9:
			x.do(api.Step{Kind: api.SJoin, From: 1, To: 1, N: x.newest().Epoch})
			x.carry()
		case 12:
			x.do(api.Step{Kind: api.SReport, From: 2, Cmd: api.Command{Kind: api.CAgain, Node: 0, Epoch: x.newest().Epoch}})
			x.carry()
		}
		if i%4 == 3 {
			tick()
		}
	}
}

// P4: the power goes behind every third byte that a node or a master keeps; whatever of it is kept, what was answered is there.
func TestEveryByte(t *testing.T) {
	t.Parallel()
	counts := map[string]int{}
	for _, place := range []int{0, 1, 2, 6} {
		for n := 1 + place%3; ; n += 3 {
			x := newWatch(t, rand.New(rand.NewPCG(uint64(n), uint64(place))), counts, three...)
			x.ok(api.Step{Kind: api.SArm, From: place, N: n, To: n%9 - 1})
			x.armed[place] = true
			x.story()
			if x.counts["error 50"] == 0 {
				counts[fmt.Sprint("bytes of ", place)] = n
				break
			}
			x.counts["error 50"] = 0
			x.armed[place] = false
			x.judged()
			if n%7 == 0 {
				x.calm()
			}
		}
	}
	for place, least := range map[int]int{0: 300, 1: 300, 2: 300, 6: 60} {
		if counts[fmt.Sprint("bytes of ", place)] < least {
			t.Error(place, counts)
		}
	}
	if counts["opened false"] < 300 || counts["calm"] < 50 {
		t.Error(counts)
	}
}

// P2, P3: an old node, parted from the others, tells a session nothing that it has seen newer, and no bounded read more than it may.
func TestBehind(t *testing.T) {
	x := town(t, three...)
	a := key("a")
	for range 3 {
		x.ends(api.Step{Kind: api.SWrite, From: 0, To: 0, Key: a, Value: x.value()})
	}
	// Node 1 gets what is written, and hears nothing of what is committed.
	hold := func(l api.Link) bool { return l == api.Link{From: 2, To: 1} }
	for range 2 {
		x.ok(api.Step{Kind: api.SWrite, From: 2, To: 0, Key: a, Value: x.value()})
		for {
			l := slices.DeleteFunc(x.Net().Busy(), hold)
			if len(l) == 0 {
				break
			}
			x.do(api.Step{Kind: api.STake, From: l[0].From, To: l[0].To})
		}
		x.ok(api.Step{Kind: api.SDrop, From: 2})
	}
	s := x.Node(1).State().Shelf()
	if s.Clean(a).Ver != 3 || s.Top(a).Ver != 5 || x.Node(2).State().Shelf().Clean(a).Ver != 5 {
		t.Fatal(s.Clean(a), s.Top(a))
	}
	read := func(client, node, mode, bound int) api.Call {
		t.Helper()
		x.ok(api.Step{Kind: api.SRead, From: client, To: node, Key: a, Mode: mode, Bound: bound})
		for range 100 {
			l := slices.DeleteFunc(x.Net().Busy(), hold)
			if len(l) == 0 || x.last(client).Ended != 0 {
				break
			}
			x.do(api.Step{Kind: api.STake, From: l[0].From, To: l[0].To})
		}
		return x.last(client)
	}
	if c := read(1, 1, api.Bounded, 2); c.Ver != 3 || c.Ended == 0 {
		t.Error(c)
	}
	if c := read(1, 1, api.Eventual, 0); c.Ver != 3 || c.Ended == 0 {
		t.Error(c)
	}
	if c := read(1, 2, api.Eventual, 0); c.Ver != 5 {
		t.Error(c)
	}
	if c := read(1, 1, api.Eventual, 0); c.Ended != 0 {
		t.Error(c)
	}
	if c := read(0, 1, api.Bounded, 1); c.Ended != 0 {
		t.Error(c)
	}
	x.carry()
	for i, want := range map[int]int{0: 5, 1: 5} {
		if c := x.last(i); c.Ver != want || c.Ended == 0 {
			t.Error(c)
		}
	}
	x.judged()
	x.calm()
}
