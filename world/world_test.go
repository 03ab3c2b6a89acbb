package world_test

import (
	"fmt"
	"math"
	"reflect"
	"slices"
	"testing"

	"towline/api"
	"towline/pass"
	"towline/proto"
	"towline/world"
)

// outside is numbers that name nobody.
var outside = []int{math.MinInt, math.MinInt + 5, -7, -1, 13, 31, 32, math.MaxInt - 5, math.MaxInt}

func newWorld(t *testing.T, members ...api.Member) *world.World {
	t.Helper()
	w, e := world.New(secret, members...)
	if e != api.OK {
		t.Fatal(members, e)
	}
	return w
}

func step(t *testing.T, w *world.World, s api.Step, want api.Errno) {
	t.Helper()
	before := w.Time()
	if e := w.Step(s); e != want {
		t.Fatalf("%+v: %d, not %d", s, e, want)
	}
	if w.Time() != before+1 {
		t.Fatalf("%+v: the time was %d, and is %d", s, before, w.Time())
	}
}

// carry lets all messages come.
func carry(t *testing.T, w *world.World) {
	t.Helper()
	for range 5000 {
		l := w.Net().Busy()
		if len(l) == 0 {
			return
		}
		w.Step(api.Step{Kind: api.STake, From: l[0].From, To: l[0].To})
	}
	t.Fatal("messages without end")
}

// led is a world in which master 0 leads, and all nodes know the chain.
func led(t *testing.T, members ...api.Member) *world.World {
	t.Helper()
	w := newWorld(t, members...)
	for range 5 {
		step(t, w, api.Step{Kind: api.STick, From: 6}, api.OK)
		carry(t, w)
	}
	return w
}

func lastCall(w *world.World, client int) api.Call {
	l := w.Client(client).Calls()
	return l[len(l)-1]
}

// messages is all that is on a link.
func messages(t *testing.T, w *world.World, from, to int) []api.Msg {
	t.Helper()
	n, l := w.Net(), api.Link{From: from, To: to}
	var out []api.Msg
	for i := range n.Len(l) {
		b, _ := n.Peek(l, i)
		m, e := proto.Get(b)
		if e != api.OK {
			t.Fatal(l, i, e)
		}
		out = append(out, m)
	}
	return out
}

// P22.1, P22.2: the chapter's example.
func TestExample(t *testing.T) {
	w := newWorld(t, api.Member{Node: 0})
	for range 4 {
		step(t, w, api.Step{Kind: api.STick, From: 6}, api.OK)
	}
	carry(t, w)
	step(t, w, api.Step{Kind: api.STick, From: 6}, api.OK)
	carry(t, w)
	if v := w.Master(0).View(); v.Role != api.Leads {
		t.Fatal(v)
	}
	if c := w.Node(0).State().Chain(); c.Epoch != 1 || len(c.Members) != 1 {
		t.Fatal(c)
	}
	step(t, w, api.Step{Kind: api.SWrite, From: 0, To: 0, Key: key("a"), Value: "x"}, api.OK)
	carry(t, w)
	if c := lastCall(w, 0); c.Ver != 1 || c.Err != api.OK || c.Ended == 0 {
		t.Fatal(c)
	}
}

// P22.1: what New refuses; a chain that can't be ahead of a key that is none.
func TestNewRefuses(t *testing.T) {
	good := []api.Member{{Node: 0}, {Node: 5, Site: 2}}
	for _, l := range [][]api.Member{
		nil, {}, {{Node: 6}}, {{Node: -1}}, {{Node: 0, Site: 3}}, {{Node: 0, Site: -1}}, {{Node: 0}, {Node: 0, Site: 1}}, {{Node: 1, Fresh: true}},
		{{Node: 0}, {Node: 1, Fresh: true}}, {{Node: math.MaxInt}}, {{Node: math.MinInt, Site: math.MinInt}},
	} {
		for _, k := range [][]byte{secret, nil, make([]byte, 15)} {
			if w, e := world.New(k, l...); w != nil || e != api.ErrChain {
				t.Errorf("New(%d bytes, %v): %v, %d", len(k), l, w, e)
			}
		}
	}
	for _, n := range []int{0, 1, 15, 17, 32, 1000} {
		if w, e := world.New(make([]byte, n), good...); w != nil || e != api.ErrArg {
			t.Errorf("New of a key of %d bytes: %v, %d", n, w, e)
		}
	}
	if w, e := world.New(make([]byte, 16), good...); w == nil || e != api.OK {
		t.Error(w, e)
	}
}

// P22.1: in a new world all run, nothing is on its way, and nothing was done.
func TestNew(t *testing.T) {
	w := newWorld(t, api.Member{Node: 4, Site: 2}, api.Member{Node: 3, Site: 0})
	if n := w.Net(); w.Time() != 0 || len(w.Calls()) != 0 || len(n.Busy()) != 0 || n.Lost() != 0 {
		t.Error(w.Time(), w.Calls(), n.Busy())
	}
	for i := range 6 {
		n := w.Node(i)
		if n == nil || n.State() == nil || n.State().Era() != 0 || n.State().Chain().Epoch != 0 {
			t.Fatal(i, n)
		}
	}
	first := api.Chain{Epoch: 1, Members: []api.Member{{Node: 3}, {Node: 4, Site: 2}}}
	for i := range 3 {
		m := w.Master(i)
		if m == nil || !reflect.DeepEqual(m.Chain(), first) || m.View().ID != i || m.View().Role != api.Follows {
			t.Fatal(i, m.Chain(), m.View())
		}
	}
	for i := range 4 {
		if c := w.Client(i); c == nil || c.Busy() || c.Chain().Epoch != 0 {
			t.Fatal(i, c)
		}
	}
}

// P22.1: each node and each master has its own number, and its own disk, of 2^20 bytes.
func TestDisks(t *testing.T) {
	w := newWorld(t, api.Member{Node: 0})
	for i := range 9 {
		d := w.Disk(i)
		if d == nil {
			t.Fatal(i)
		}
		if e := d.Append(5, make([]byte, 1<<20-d.Used()+1)); e != api.ErrFull {
			t.Errorf("disk %d has more room: %d", i, e)
		}
		if e := d.Append(5, make([]byte, 1<<20-d.Used())); e != api.OK {
			t.Errorf("disk %d has less room: %d", i, e)
		}
	}
	for place := range 6 {
		step(t, w, api.Step{Kind: api.SReport, From: place, Cmd: api.Command{Kind: api.CDead, Epoch: 1}}, api.OK)
		if got := len(messages(t, w, place, 7)); got != 1 {
			t.Errorf("node %d told a master %d messages", place, got)
		}
	}
	used := func() (l []int) {
		for i := range 9 {
			l = append(l, w.Disk(i).Used())
		}
		return l
	}
	was := used()
	for range 4 {
		step(t, w, api.Step{Kind: api.STick, From: 6}, api.OK)
	}
	for i, n := range used() {
		if (n != was[i]) != (i == 6) {
			t.Errorf("master 0 stood: disk %d had %d bytes, and has %d", i, was[i], n)
		}
	}
}

// P22.1: there is nobody beyond.
func TestNobody(t *testing.T) {
	w := newWorld(t, api.Member{Node: 0})
	for _, i := range outside {
		if w.Node(i) != nil || w.Master(i) != nil || w.Client(i) != nil || w.Disk(i) != nil {
			t.Error(i)
		}
	}
	for i := range 13 {
		if got := []bool{w.Node(i) != nil, w.Master(i) != nil, w.Client(i) != nil, w.Disk(i) != nil}; !slices.Equal(got, []bool{i < 6, i < 3, i < 4, i < 9}) {
			t.Error(i, got)
		}
	}
}

// stands is how many ticks it takes a master to stand.
func stands(t *testing.T, w *world.World, i int) int {
	t.Helper()
	for n := 1; n < 20; n++ {
		step(t, w, api.Step{Kind: api.STick, From: 6 + i}, api.OK)
		if w.Master(i).View().Role == api.Stands {
			return n
		}
	}
	t.Fatal(i, "never stands")
	return 0
}

// P22.1: master 0 has timeout 0, 1 has 1, 2 has 2. P22.2: one that is started has the step's; one that ticks, too.
func TestTimeouts(t *testing.T) {
	w := newWorld(t, api.Member{Node: 0})
	for i := range 3 {
		if n := stands(t, w, i); n != 4+i {
			t.Errorf("master %d stands behind %d ticks", i, n)
		}
	}
	for timeout := range 8 {
		step(t, w, api.Step{Kind: api.SCrash, From: 7}, api.OK)
		step(t, w, api.Step{Kind: api.SStart, From: 7, Timeout: timeout}, api.OK)
		if n := stands(t, w, 1); n != 4+timeout {
			t.Errorf("a master that was started with %d stands behind %d ticks", timeout, n)
		}
		for w.Master(1).View().Hard.Term%2 == 1 {
			step(t, w, api.Step{Kind: api.STick, From: 7, Timeout: timeout}, api.OK)
		}
		term := w.Master(1).View().Hard.Term
		for range 3 + timeout {
			step(t, w, api.Step{Kind: api.STick, From: 7}, api.OK)
		}
		if w.Master(1).View().Hard.Term != term {
			t.Errorf("it stood anew too early, by %d", timeout)
		}
		step(t, w, api.Step{Kind: api.STick, From: 7, Timeout: 8}, api.ErrArg)
		step(t, w, api.Step{Kind: api.STick, From: 7, Timeout: -1}, api.ErrArg)
	}
	// A node's time has no timeout.
	for _, n := range outside {
		step(t, w, api.Step{Kind: api.STick, From: 3, Timeout: n}, api.OK)
	}
}

// P22.2: a kind that is none; a step more, all the same.
func TestKinds(t *testing.T) {
	w := led(t, api.Member{Node: 0})
	was := text(w)
	for _, k := range []int{0, 16, 17, 255, -1, -2, math.MinInt, math.MaxInt} {
		step(t, w, api.Step{Kind: k, Key: key("a"), Value: "x"}, api.ErrStep)
	}
	if got := text(w); cutTime(got) != cutTime(was) {
		t.Errorf("something else has changed:\n%s\nnot\n%s", got, was)
	}
}

// cutTime is a world's text without the time ahead of it.
func cutTime(s string) string {
	for i := range s {
		if s[i] == ' ' {
			return s[i:]
		}
	}
	return ""
}

// P22.2: who must be somebody, and run, or not.
func TestWho(t *testing.T) {
	w := led(t, api.Member{Node: 0})
	step(t, w, api.Step{Kind: api.SCrash, From: 1}, api.OK)
	step(t, w, api.Step{Kind: api.SCrash, From: 7}, api.OK)
	was := text(w)
	cmd := api.Command{Kind: api.CDead, Epoch: 1}
	for kind, wrong := range map[int][]int{
		api.STick: {1, 7, 9, 10, 12}, api.SCrash: {1, 7, 9, 10, 12}, api.SArm: {1, 7, 9, 10, 12}, api.SStart: {0, 2, 5, 6, 8, 9, 10, 12},
		api.SWrite: {4, 5, 9, 12}, api.SRead: {4, 9}, api.SAgain: {4, 9}, api.SDrop: {4, 9}, api.SFresh: {4, 9},
		api.SReport: {1, 6, 7, 8, 9}, api.SJoin: {1, 6, 7, 8, 9},
	} {
		for _, from := range append(wrong, outside...) {
			// Whatever else is wrong, who it is comes first.
			for _, s := range []api.Step{{N: 1, Key: key("a"), Value: "x", Cmd: cmd}, {N: -1, To: -1, Timeout: 99, Mode: 9, Bound: -1}} {
				s.Kind, s.From = kind, from
				step(t, w, s, api.ErrStep)
			}
		}
	}
	if got := text(w); cutTime(got) != cutTime(was) {
		t.Errorf("something has changed:\n%s\nnot\n%s", got, was)
	}
	if _, e := w.Disk(1).Read(0); e != api.ErrDown {
		t.Error("a disk has power:", e)
	}
}

// P22.2: what is on a link is taken, lost, doubled; errors are those of links.
func TestLinks(t *testing.T) {
	w := newWorld(t, api.Member{Node: 0}, api.Member{Node: 1})
	for i := range 3 {
		step(t, w, api.Step{Kind: api.SReport, From: 0, Cmd: api.Command{Kind: api.CDead, Node: i, Epoch: 1}}, api.OK)
	}
	at := func() (l []int) {
		for _, m := range messages(t, w, 0, 6) {
			l = append(l, m.Cmd.Node)
		}
		return l
	}
	has := func(want ...int) {
		t.Helper()
		if got := at(); !slices.Equal(got, want) {
			t.Fatal(got, want)
		}
	}
	has(0, 1, 2)
	for _, kind := range []int{api.STake, api.SLose, api.SDouble} {
		for _, n := range []int{-1, 3, math.MaxInt, math.MinInt} {
			step(t, w, api.Step{Kind: kind, From: 0, To: 6, N: n}, api.ErrLink)
		}
		for _, n := range append([]int{6}, outside...) {
			step(t, w, api.Step{Kind: kind, From: n, To: 6}, api.ErrLink)
			step(t, w, api.Step{Kind: kind, From: 6, To: n}, api.ErrLink)
		}
		has(0, 1, 2)
	}
	step(t, w, api.Step{Kind: api.SDouble, From: 0, To: 6, N: 1}, api.OK)
	has(0, 1, 2, 1)
	step(t, w, api.Step{Kind: api.SLose, From: 0, To: 6, N: 1}, api.OK)
	has(0, 2, 1)
	// A master that does not lead refuses: that is the step's error, and the message is gone.
	step(t, w, api.Step{Kind: api.STake, From: 0, To: 6, N: 0}, api.ErrWait)
	has(2, 1)
	for range 6 {
		step(t, w, api.Step{Kind: api.SDouble, From: 0, To: 6}, api.OK)
	}
	step(t, w, api.Step{Kind: api.SDouble, From: 0, To: 6}, api.ErrFull)
	// What has no room is lost; nobody hears of it.
	step(t, w, api.Step{Kind: api.SReport, From: 0, Cmd: api.Command{Kind: api.CDead, Node: 5, Epoch: 1}}, api.OK)
	has(2, 1, 2, 2, 2, 2, 2, 2)
	if w.Net().Lost() != 1 || len(messages(t, w, 0, 7)) != 4 {
		t.Error(w.Net().Lost(), messages(t, w, 0, 7))
	}
}

// P22.2: the wall has the lowest 13 bits; what it holds is gone, and nothing is done.
func TestWall(t *testing.T) {
	for _, c := range []struct {
		n       int
		through bool
	}{
		{0, true}, {1, false}, {1 << 6, false}, {1<<6 | 1, true}, {1<<13 - 1, true}, {-1, true}, {-2, false}, {1 << 13, true}, {1<<13 | 1, false},
		{1 << 7, true}, {math.MinInt, true}, {math.MinInt | 1, false}, {math.MaxInt, true}, {math.MaxInt ^ 1<<6, false},
	} {
		w := led(t, api.Member{Node: 0}, api.Member{Node: 1})
		step(t, w, api.Step{Kind: api.SReport, From: 0, Cmd: api.Command{Kind: api.CDead, Node: 1, Epoch: 1}}, api.OK)
		step(t, w, api.Step{Kind: api.SWall, N: c.n}, api.OK)
		step(t, w, api.Step{Kind: api.STake, From: 0, To: 6}, api.OK)
		if got := w.Master(0).View().Len == 2; got != c.through || len(messages(t, w, 0, 6)) != 0 {
			t.Errorf("wall %d: through %v", c.n, got)
		}
		step(t, w, api.Step{Kind: api.SWall}, api.OK)
		step(t, w, api.Step{Kind: api.STake, From: 0, To: 7}, api.ErrWait)
	}
	// Places above 12 are on no side.
	w := newWorld(t, api.Member{Node: 0})
	step(t, w, api.Step{Kind: api.SWall, N: 1<<20 | 1<<12}, api.OK)
	n := w.Net()
	for from := range 32 {
		l := api.Link{From: from, To: (from + 16) % 32}
		n.Send(l, []byte("x"))
		if _, ok, e := n.Take(l, 0); e != api.OK || ok == (l.From == 12 || l.To == 12) {
			t.Error(l, ok, e)
		}
	}
}

// P22.2: who does not run takes nothing; the message is gone.
func TestDown(t *testing.T) {
	w := led(t, api.Member{Node: 0}, api.Member{Node: 1})
	step(t, w, api.Step{Kind: api.SWrite, From: 0, To: 0, Key: key("a"), Value: "x"}, api.OK)
	step(t, w, api.Step{Kind: api.SReport, From: 1, Cmd: api.Command{Kind: api.CDead, Node: 3, Epoch: 1}}, api.OK)
	step(t, w, api.Step{Kind: api.SCrash, From: 0}, api.OK)
	step(t, w, api.Step{Kind: api.SCrash, From: 6}, api.OK)
	if w.Node(0) != nil || w.Master(0) != nil || w.Node(1) == nil || w.Master(1) == nil {
		t.Fatal("who runs")
	}
	step(t, w, api.Step{Kind: api.STake, From: 9, To: 0}, api.ErrDown)
	step(t, w, api.Step{Kind: api.STake, From: 9, To: 0}, api.ErrLink)
	step(t, w, api.Step{Kind: api.STake, From: 1, To: 6}, api.ErrDown)
	step(t, w, api.Step{Kind: api.STake, From: 1, To: 7}, api.ErrNode)
	// A wall ahead of it: nothing is done.
	step(t, w, api.Step{Kind: api.SAgain, From: 0, To: 0}, api.OK)
	step(t, w, api.Step{Kind: api.SWall, N: 1}, api.OK)
	step(t, w, api.Step{Kind: api.STake, From: 9, To: 0}, api.OK)
	if w.Node(0) != nil || lastCall(w, 0).Ended != 0 {
		t.Error("it runs")
	}
}

// P22.2: who is started has what it had, and no more; the power is there also if the timeout is refused.
func TestStart(t *testing.T) {
	w := led(t, api.Member{Node: 0})
	step(t, w, api.Step{Kind: api.SWrite, From: 0, To: 0, Key: key("a"), Value: "x"}, api.OK)
	carry(t, w)
	for _, place := range []int{0, 6} {
		step(t, w, api.Step{Kind: api.SCrash, From: place, N: -1}, api.OK)
		for _, timeout := range []int{-1, 8, math.MaxInt, math.MinInt} {
			if _, e := w.Disk(place).Read(0); timeout == -1 && e != api.ErrDown {
				t.Error(place, e)
			}
			step(t, w, api.Step{Kind: api.SStart, From: place, Timeout: timeout}, api.ErrArg)
			if _, e := w.Disk(place).Read(0); e != api.OK || w.Node(0) != nil && place == 0 || w.Master(0) != nil && place == 6 {
				t.Error(place, timeout, e)
			}
			step(t, w, api.Step{Kind: api.STick, From: place}, api.ErrStep)
		}
		step(t, w, api.Step{Kind: api.SStart, From: place, Timeout: 7}, api.OK)
		step(t, w, api.Step{Kind: api.SStart, From: place, Timeout: 7}, api.ErrStep)
	}
	if s := w.Node(0).State(); s.Era() != 1 || s.Chain().Epoch != 0 || s.Shelf().Top(key("a")).Ver != 1 {
		t.Error(s)
	}
	if m := w.Master(0); m.View().Len != 1 || m.View().Hard != (api.Hard{Term: 1}) || m.View().Role != api.Follows || m.Chain().Epoch != 1 {
		t.Error(m.View())
	}
}

// P22.2: a fuse takes the power in the midst of what one does: it does not run any more, and said nothing.
func TestArm(t *testing.T) {
	for _, n := range []int{0, -1, math.MinInt} {
		step(t, newWorld(t, api.Member{Node: 0}), api.Step{Kind: api.SArm, From: 0, N: n}, api.ErrArg)
	}
	for keep := -1; keep < 12; keep++ {
		w := led(t, api.Member{Node: 0}, api.Member{Node: 1})
		lies := w.Disk(0).Used()
		step(t, w, api.Step{Kind: api.SArm, From: 0, N: 6, To: keep}, api.OK)
		step(t, w, api.Step{Kind: api.SWrite, From: 0, To: 0, Key: key("a"), Value: "x"}, api.OK)
		step(t, w, api.Step{Kind: api.STake, From: 9, To: 0}, api.ErrDown)
		if w.Node(0) != nil || len(w.Net().Busy()) != 0 {
			t.Fatal("it runs, or said something")
		}
		if got, want := w.Disk(0).Used()-lies, min(max(keep, 0), 6); got != want {
			t.Errorf("keep %d: %d bytes more, not %d", keep, got, want)
		}
		step(t, w, api.Step{Kind: api.STick, From: 0}, api.ErrStep)
		step(t, w, api.Step{Kind: api.SStart, From: 0}, api.OK)
		if last, _ := w.Node(0).State().Shelf().Last(); last != 0 || w.Node(0).State().Era() != 1 {
			t.Error(keep, last)
		}
	}
	// Masters, by a tick.
	w := newWorld(t, api.Member{Node: 0})
	step(t, w, api.Step{Kind: api.SArm, From: 8, N: 1}, api.OK)
	for range 5 {
		step(t, w, api.Step{Kind: api.STick, From: 8}, api.OK)
	}
	step(t, w, api.Step{Kind: api.STick, From: 8}, api.ErrDown)
	step(t, w, api.Step{Kind: api.STick, From: 8}, api.ErrStep)
	if w.Master(2) != nil || w.Master(1) == nil || len(w.Net().Busy()) != 0 {
		t.Error("who runs")
	}
}

// P22.2: clients' steps, at the time; their errors.
func TestClients(t *testing.T) {
	w := led(t, api.Member{Node: 0}, api.Member{Node: 1})
	a := key("a")
	for _, s := range []struct {
		s    api.Step
		want api.Errno
	}{
		{api.Step{Kind: api.SWrite, To: 0, Key: api.Key{}, Value: "x"}, api.ErrKey},
		{api.Step{Kind: api.SWrite, To: 0, Key: a}, api.ErrKey},
		{api.Step{Kind: api.SWrite, To: 6, Key: a, Value: "x"}, api.ErrArg},
		{api.Step{Kind: api.SWrite, To: -1, Key: a, Value: "x"}, api.ErrArg},
		{api.Step{Kind: api.SRead, To: 0, Key: api.Key{}}, api.ErrKey},
		{api.Step{Kind: api.SRead, To: 0, Key: a, Mode: 3}, api.ErrArg},
		{api.Step{Kind: api.SRead, To: 0, Key: a, Bound: -1}, api.ErrArg},
		{api.Step{Kind: api.SAgain, To: 0}, api.ErrNone},
		{api.Step{Kind: api.SDrop}, api.ErrNone},
	} {
		s.s.From = 2
		step(t, w, s.s, s.want)
	}
	if len(w.Net().Busy()) != 0 || len(w.Calls()) != 0 {
		t.Fatal("what was refused is on its way")
	}
	step(t, w, api.Step{Kind: api.SWrite, From: 2, To: 1, Key: a, Value: "x"}, api.OK)
	began := w.Time()
	step(t, w, api.Step{Kind: api.SWrite, From: 2, To: 1, Key: a, Value: "x"}, api.ErrBusy)
	step(t, w, api.Step{Kind: api.SFresh, From: 2}, api.ErrBusy)
	step(t, w, api.Step{Kind: api.SAgain, From: 2, To: 4}, api.OK)
	step(t, w, api.Step{Kind: api.SRead, From: 0, To: 5, Key: a, Mode: api.Bounded, Bound: 7}, api.OK)
	if m := messages(t, w, 11, 4); len(m) != 1 || m[0].Kind != api.MWrite || m[0].Value != "x" || m[0].Key != a || m[0].Req != (api.Req{Client: 2, Seq: 1}) {
		t.Error(m)
	}
	if m := messages(t, w, 9, 5); len(m) != 1 || m[0].Kind != api.MRead || m[0].Mode != api.Bounded || m[0].Bound != 7 {
		t.Error(m)
	}
	l := w.Calls()
	if len(l) != 2 || l[0].Client != 0 || l[0].Began != began+4 || l[1].Client != 2 || l[1].Began != began {
		t.Error(l)
	}
	step(t, w, api.Step{Kind: api.SDrop, From: 0}, api.OK)
	carry(t, w)
	if c := lastCall(w, 2); c.Ended <= began || c.Ended > w.Time() || c.Ver != 1 {
		t.Error(c)
	}
	step(t, w, api.Step{Kind: api.SRead, From: 2, To: 0, Key: a}, api.OK)
	if c := lastCall(w, 2); c.Floor != 1 {
		t.Error(c)
	}
	step(t, w, api.Step{Kind: api.SDrop, From: 2}, api.OK)
	step(t, w, api.Step{Kind: api.SFresh, From: 2}, api.OK)
	step(t, w, api.Step{Kind: api.SRead, From: 2, To: 0, Key: a, Mode: api.Eventual}, api.OK)
	if c := lastCall(w, 2); c.Floor != 0 {
		t.Error(c)
	}
	// The answer comes at just that time.
	step(t, w, api.Step{Kind: api.STake, From: 11, To: 0}, api.OK)
	for len(messages(t, w, 0, 11)) == 0 {
		step(t, w, api.Step{Kind: api.STake, From: 11, To: 0}, api.OK)
	}
	for n := len(messages(t, w, 0, 11)); lastCall(w, 2).Ended == 0 && n > 0; n-- {
		w.Step(api.Step{Kind: api.STake, From: 0, To: 11, N: n - 1})
	}
	if c := lastCall(w, 2); c.Ended != w.Time() {
		t.Error(c, w.Time())
	}
}

// P22.2: what nodes tell masters; their errors.
func TestTells(t *testing.T) {
	w := newWorld(t, api.Member{Node: 0})
	step(t, w, api.Step{Kind: api.SReport, From: 3, Cmd: api.Command{}}, api.ErrCommand)
	step(t, w, api.Step{Kind: api.SReport, From: 3, Cmd: api.Command{Kind: api.CReady, Node: 3, Epoch: 1}}, api.ErrCommand)
	step(t, w, api.Step{Kind: api.SJoin, From: 3, To: 3, N: 1}, api.ErrCommand)
	step(t, w, api.Step{Kind: api.SJoin, From: 3, To: 2, N: 0}, api.ErrCommand)
	if len(w.Net().Busy()) != 0 {
		t.Fatal("what was refused is on its way")
	}
	site := api.Command{Kind: api.CSite, Site: 1, Epoch: 9}
	step(t, w, api.Step{Kind: api.SReport, From: 3, Cmd: site}, api.OK)
	step(t, w, api.Step{Kind: api.SJoin, From: 3, To: 2, N: 7}, api.OK)
	for to := 6; to < 9; to++ {
		m := messages(t, w, 3, to)
		if len(m) != 2 || m[0].Kind != api.MTell || m[0].Cmd != site || m[1].Kind != api.MTell || m[1].Cmd != (api.Command{Kind: api.CJoin, Node: 3, Site: 2, Epoch: 7}) {
			t.Error(to, m)
		}
	}
}

// P22.1: passes are signed by the key that was handed in.
func TestKey(t *testing.T) {
	k := []byte("another key, 16b")
	w, e := world.New(k, api.Member{Node: 0})
	if e != api.OK {
		t.Fatal(e)
	}
	clear(k)
	seen := func() []api.Seen {
		t.Helper()
		step(t, w, api.Step{Kind: api.SRead, From: 0, To: 0, Key: key("a"), Mode: api.Eventual}, api.OK)
		for len(messages(t, w, 0, 9)) == 0 {
			step(t, w, api.Step{Kind: api.STake, From: 9, To: 0}, api.OK)
		}
		m := messages(t, w, 0, 9)[0]
		carry(t, w)
		l, e := pass.Read([]byte("another key, 16b"), m.Pass)
		if e != api.OK {
			t.Fatal(e)
		}
		return l
	}
	for range 5 {
		step(t, w, api.Step{Kind: api.STick, From: 6}, api.OK)
		carry(t, w)
	}
	step(t, w, api.Step{Kind: api.SWrite, From: 0, To: 0, Key: key("a"), Value: "x"}, api.OK)
	carry(t, w)
	if l := seen(); len(l) != 1 || l[0] != (api.Seen{Key: key("a"), Ver: 1}) {
		t.Fatal(l)
	}
	// One that is opened once more has the same key, and the chain that was handed in.
	step(t, w, api.Step{Kind: api.SCrash, From: 0}, api.OK)
	step(t, w, api.Step{Kind: api.SStart, From: 0}, api.OK)
	for range 3 {
		step(t, w, api.Step{Kind: api.STick, From: 0}, api.OK)
		carry(t, w)
	}
	if l := seen(); len(l) != 1 || l[0].Ver != 1 {
		t.Fatal(l)
	}
}

// P22.2: a master whose disk is full stands still, but runs: it may be crashed, and started, if what lies there can be opened.
func TestFull(t *testing.T) {
	for file := range 2 {
		t.Run(fmt.Sprint("file ", file), func(t *testing.T) {
			t.Parallel()
			full(t, file)
		})
	}
}

// full has a master's disk filled while its tape is in a file.
func full(t *testing.T, file int) {
	w := newWorld(t, api.Member{Node: 0})
	if file == 1 {
		// What is kept of a note can't be read: all is saved anew, to the other file.
		step(t, w, api.Step{Kind: api.SArm, From: 6, N: 3, To: 2}, api.OK)
		for range 3 {
			step(t, w, api.Step{Kind: api.STick, From: 6}, api.OK)
		}
		step(t, w, api.Step{Kind: api.STick, From: 6}, api.ErrDown)
		step(t, w, api.Step{Kind: api.SStart, From: 6}, api.OK)
	}
	last := func(from, to int) api.Step {
		return api.Step{Kind: api.STake, From: from, To: to, N: w.Net().Len(api.Link{From: from, To: to}) - 1}
	}
	empty := func() {
		for _, l := range w.Net().Busy() {
			for w.Net().Len(l) > 0 {
				step(t, w, api.Step{Kind: api.SLose, From: l.From, To: l.To}, api.OK)
			}
		}
	}
	// Each time that it stands it notes a term, in some ten bytes.
	for room := 1 << 20; room > 40; room = 1<<20 - w.Disk(6).Used() {
		for range room/10 + 1 {
			step(t, w, api.Step{Kind: api.STick, From: 6}, api.OK)
		}
	}
	for w.Disk(6).Used() < 1<<20-30 {
		step(t, w, api.Step{Kind: api.STick, From: 6}, api.OK)
	}
	// Another one hears of that term, and leads in the next one: that and a row are too much for the first one.
	empty()
	for w.Net().Len(api.Link{From: 6, To: 7}) == 0 {
		step(t, w, api.Step{Kind: api.STick, From: 6}, api.OK)
	}
	step(t, w, last(6, 7), api.OK)
	empty()
	for w.Master(1).View().Role != api.Stands {
		step(t, w, api.Step{Kind: api.STick, From: 7}, api.OK)
	}
	step(t, w, last(7, 8), api.OK)
	step(t, w, last(8, 7), api.OK)
	step(t, w, api.Step{Kind: api.SDouble, From: 7, To: 6, N: last(7, 6).N}, api.OK)
	step(t, w, last(7, 6), api.ErrFull)
	if w.Master(0) == nil || w.Master(0).Chain().Epoch != 0 {
		t.Fatal("it should run, and stand still")
	}
	step(t, w, last(7, 6), api.ErrNil)
	step(t, w, api.Step{Kind: api.STick, From: 6}, api.ErrNil)
	step(t, w, api.Step{Kind: api.SStart, From: 6}, api.ErrStep)
	step(t, w, api.Step{Kind: api.SArm, From: 6, N: 5}, api.OK)
	// Of the note that was not synced three bytes are kept: it would have to be saved anew, without room.
	told, _ := w.Disk(6).Read(file)
	bare := w.Disk(6)
	bare.Crash(-1, -1)
	bare.Start()
	lasts, _ := bare.Read(file)
	if len(told) < len(lasts)+4 || len(lasts) < 1<<19 {
		t.Fatal(len(told), len(lasts))
	}
	step(t, w, api.Step{Kind: api.SCrash, From: 6, N: 3}, api.OK)
	if got := w.Disk(6).Used(); got != bare.Used()+3 {
		t.Fatal(got, bare.Used())
	}
	for range 2 {
		step(t, w, api.Step{Kind: api.SStart, From: 6}, api.ErrFull)
		if _, e := w.Disk(6).Read(0); e != api.OK || w.Master(0) != nil {
			t.Fatal(e, w.Master(0))
		}
		step(t, w, api.Step{Kind: api.STick, From: 6}, api.ErrStep)
	}
}

// DOC.md, Objects: of a world that New did not make.
func TestObjects(t *testing.T) {
	for _, w := range []*world.World{nil, {}} {
		for kind := -1; kind < 17; kind++ {
			if e := w.Step(api.Step{Kind: kind, Key: key("a"), Value: "x", N: 1}); e != api.ErrNil {
				t.Error(kind, e)
			}
		}
		for i := -1; i < 13; i++ {
			if w.Node(i) != nil || w.Master(i) != nil || w.Client(i) != nil || w.Disk(i) != nil {
				t.Error(i)
			}
		}
		if w.Time() != 0 || w.Net() != nil || w.Calls() != nil {
			t.Error(w.Time(), w.Net(), w.Calls())
		}
	}
}

// DOC.md, Memory: what is handed in is not changed or kept; what is answered is new.
func TestMemory(t *testing.T) {
	k := slices.Clone(secret)
	members := append(make([]api.Member, 0, 5), api.Member{Node: 1, Site: 2}, api.Member{Node: 0})
	room := members[:5]
	room[2] = api.Member{Node: 5}
	was := fmt.Sprint(k, room)
	w, e := world.New(k, members...)
	if e != api.OK || fmt.Sprint(k, room) != was {
		t.Fatal("what was handed in has changed:", e, k, room)
	}
	clear(k)
	clear(room)
	other, _ := world.New(secret, api.Member{Node: 1, Site: 2}, api.Member{Node: 0})
	play := func(w *world.World) {
		for range 5 {
			step(t, w, api.Step{Kind: api.STick, From: 6}, api.OK)
			carry(t, w)
		}
		step(t, w, api.Step{Kind: api.SWrite, From: 3, To: 0, Key: key("a"), Value: "x"}, api.OK)
		step(t, w, api.Step{Kind: api.SWrite, From: 1, To: 0, Key: key("b"), Value: "y"}, api.OK)
		carry(t, w)
		for _, place := range []int{1, 6} {
			step(t, w, api.Step{Kind: api.SCrash, From: place}, api.OK)
			step(t, w, api.Step{Kind: api.SStart, From: place}, api.OK)
		}
		for range 3 {
			for place := range 7 {
				step(t, w, api.Step{Kind: api.STick, From: place}, api.OK)
				carry(t, w)
			}
		}
		step(t, w, api.Step{Kind: api.SRead, From: 2, To: 1, Key: key("b")}, api.OK)
	}
	play(w)
	spoil(w)
	play(other)
	if a, b := text(w), text(other); a != b {
		t.Errorf("%s\nnot\n%s", a, b)
	}
	for i := range 9 {
		if a, b := lies(w.Disk(i)), lies(other.Disk(i)); a != b {
			t.Errorf("disk %d: %s, not %s", i, a, b)
		}
	}
}

// spoil changes all that a world answers as its own.
func spoil(w *world.World) {
	calls := w.Calls()
	clear(calls[:cap(calls)])
	n := w.Net()
	for _, l := range n.Busy() {
		n.Lose(l, 0)
	}
	n.Send(api.Link{From: 0, To: 1}, []byte("x"))
	n.Wall(0x55)
	for i := range 9 {
		d := w.Disk(i)
		d.Append(0, []byte("x"))
		d.Clear(1)
		d.Arm(2)
		d.Crash()
	}
}

// P22.1: nodes, masters and clients are these themselves.
func TestThemselves(t *testing.T) {
	w := led(t, api.Member{Node: 0})
	n, m, c := w.Node(0), w.Master(0), w.Client(0)
	step(t, w, api.Step{Kind: api.SWrite, From: 0, To: 0, Key: key("a"), Value: "x"}, api.OK)
	carry(t, w)
	if n != w.Node(0) || m != w.Master(0) || c != w.Client(0) || n.State().Shelf().Top(key("a")).Ver != 1 || len(c.Calls()) != 1 {
		t.Error("others")
	}
	step(t, w, api.Step{Kind: api.SCrash, From: 0}, api.OK)
	step(t, w, api.Step{Kind: api.SStart, From: 0}, api.OK)
	if w.Node(0) == n || w.Node(0) == nil {
		t.Error("one that is opened once more is another one")
	}
}
