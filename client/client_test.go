package client_test

import (
	"fmt"
	"math"
	"math/rand/v2"
	"strings"
	"testing"

	"towline/api"
	"towline/client"
	"towline/proto"
)

// wants fails, unless an error is this one.
func wants(t *testing.T, what string, e, want api.Errno) {
	t.Helper()
	if e != want {
		t.Errorf("%s: %d, not %d", what, e, want)
	}
}

// The chapter's example.
func TestExample(t *testing.T) {
	x := pairOf(t, 0)
	wants(t, "write", x.write(1, "a", "x", 1), api.OK)
	l, e := x.take(api.Msg{Kind: api.MDone, From: 1, To: 9, Req: api.Req{Seq: 1}, Err: api.ErrHead, Chain: row(1, 0, 1)}, 2)
	if e != api.OK || len(l) != 1 || l[0].From != 9 || l[0].To != 0 {
		t.Fatal(l, e)
	}
	wants(t, "done", x.done(0, api.OK, 1, 3), api.OK)
	if c := x.c.Calls(); x.c.Busy() || len(c) != 1 || c[0].Ended != 3 || c[0].Ver != 1 || c[0].Err != api.OK || c[0].Value != "x" {
		t.Fatal(c)
	}
	wants(t, "read", x.read(2, "a", api.Strong, 0, 4), api.OK)
	if c := x.c.Calls(); len(c) != 2 || c[1].Floor != 1 || c[1].Seq != 2 {
		t.Fatal(c)
	}
}

// P21.1.
func TestNew(t *testing.T) {
	for _, id := range []int{math.MinInt, -1, 4, 9, math.MaxInt} {
		if c, e := client.New(id); c != nil || e != api.ErrArg {
			t.Error(id, c, e)
		}
	}
	for id := range 4 {
		x := pairOf(t, id)
		if x.c.Busy() || len(x.c.Calls()) != 0 || x.c.Chain().Epoch != 0 || len(x.c.Chain().Members) != 0 {
			t.Error(id)
		}
		x.write(id, "k", "v", 7)
		if !x.c.Busy() || x.c.Calls()[0].Client != id {
			t.Error(x.c.Calls())
		}
	}
}

// P21.2: which calls may begin, and which error comes first.
func TestBegin(t *testing.T) {
	for name, c := range map[string]struct {
		to    int
		k     string
		value string
		now   int
		e     api.Errno
	}{
		"least":          {0, "a", "x", 1, api.OK},
		"greatest":       {5, "abcdefgh", strings.Repeat("v", 24), math.MaxInt, api.OK},
		"no key":         {0, "", "x", 1, api.ErrKey},
		"a nought in it": {0, "a\x00b", "x", 1, api.ErrKey},
		"no value":       {0, "a", "", 1, api.ErrKey},
		"long value":     {0, "a", strings.Repeat("v", 25), 1, api.ErrKey},
		"no text":        {0, "a", "\xff", 1, api.ErrKey},
		"to below":       {-1, "a", "x", 1, api.ErrArg},
		"to a master":    {6, "a", "x", 1, api.ErrArg},
		"no time":        {0, "a", "x", 0, api.ErrArg},
		"time below 0":   {0, "a", "x", math.MinInt, api.ErrArg},
		"key first":      {9, "", "x", 0, api.ErrKey},
	} {
		wants(t, name, pairOf(t, 1).write(c.to, c.k, c.value, c.now), c.e)
		busy := pairOf(t, 1)
		busy.read(0, "z", 0, 0, 1)
		want := api.ErrBusy
		if c.e == api.ErrKey {
			want = c.e
		}
		wants(t, name+", busy", busy.write(c.to, c.k, c.value, c.now), want)
	}
}

// P21.2: the same of reads.
func TestBeginRead(t *testing.T) {
	for name, c := range map[string]struct {
		to                int
		k                 string
		mode, bound, now  int
		e, whileOneIsBusy api.Errno
	}{
		"strong":         {0, "a", 0, 0, 1, api.OK, api.ErrBusy},
		"bounded":        {5, "abcdefgh", 1, top, math.MaxInt, api.OK, api.ErrBusy},
		"eventual":       {5, "a", 2, 7, 1, api.OK, api.ErrBusy},
		"no key":         {0, "", 0, 0, 1, api.ErrKey, api.ErrKey},
		"a nought first": {0, "\x00b", 0, 0, 1, api.ErrKey, api.ErrKey},
		"key first":      {6, "", 3, -1, 0, api.ErrKey, api.ErrKey},
		"mode below":     {0, "a", -1, 0, 1, api.ErrArg, api.ErrArg},
		"mode above":     {0, "a", 3, 0, 1, api.ErrArg, api.ErrArg},
		"bound below":    {0, "a", 1, -1, 1, api.ErrArg, api.ErrArg},
		"bound above":    {0, "a", 1, top + 1, 1, api.ErrArg, api.ErrArg},
		"strong, bound":  {0, "a", 0, -1, 1, api.ErrArg, api.ErrArg},
		"to below":       {-1, "a", 0, 0, 1, api.ErrArg, api.ErrBusy},
		"to a master":    {6, "a", 0, 0, 1, api.ErrArg, api.ErrBusy},
		"no time":        {0, "a", 0, 0, 0, api.ErrArg, api.ErrBusy},
	} {
		wants(t, name, pairOf(t, 2).read(c.to, c.k, c.mode, c.bound, c.now), c.e)
		busy := pairOf(t, 2)
		busy.write(0, "z", "v", 1)
		wants(t, name+", busy", busy.read(c.to, c.k, c.mode, c.bound, c.now), c.whileOneIsBusy)
	}
}

// P21.2: Again, Drop, Fresh.
func TestAgainDropFresh(t *testing.T) {
	x := pairOf(t, 3)
	wants(t, "again of none", x.again(0), api.ErrNone)
	wants(t, "again of none, nowhere", x.again(-1), api.ErrNone)
	wants(t, "drop of none", x.drop(), api.ErrNone)
	wants(t, "fresh", x.fresh(), api.OK)
	x.write(0, "a", "x", 1)
	wants(t, "fresh, busy", x.fresh(), api.ErrBusy)
	for to, e := range map[int]api.Errno{-1: api.ErrArg, 0: api.OK, 5: api.OK, 6: api.ErrArg, math.MaxInt: api.ErrArg, math.MinInt: api.ErrArg} {
		wants(t, fmt.Sprint("again ", to), x.again(to), e)
	}
	wants(t, "drop", x.drop(), api.OK)
	if c := x.c.Calls(); len(c) != 1 || c[0].Ended != 0 || c[0].Err != api.OK || c[0].Value != "x" {
		t.Error(c)
	}
	wants(t, "drop again", x.drop(), api.ErrNone)
	wants(t, "an answer to what was dropped", x.done(0, api.OK, 1, 9), api.ErrStale)
}

// P21.2, P21.3: the pass, and what was told, go with a session, and end with it.
func TestSession(t *testing.T) {
	x := pairOf(t, 1)
	x.write(0, "a", "x", 1)
	answer := api.Msg{Kind: api.MDone, From: 0, To: 10, Req: api.Req{Client: 1, Seq: 1}, Ver: 3, Pass: []byte("pass one")}
	x.take(answer, 2)
	x.read(1, "a", api.Eventual, 0, 3)
	if x.c.Calls()[1].Floor != 3 {
		t.Error("no floor")
	}
	l, _ := x.c.Again(1)
	if m, e := proto.Get(l[0].Data); e != api.OK || string(m.Pass) != "pass one" {
		t.Error(m, e)
	}
	answer.Req.Seq, answer.Ver, answer.Pass = 2, 2, []byte("pass two")
	x.take(answer, 4) // the version falls, the floor does not
	x.read(1, "a", api.Eventual, 0, 5)
	x.read(1, "b", api.Eventual, 0, 5)
	if x.c.Calls()[2].Floor != 3 {
		t.Error("the floor fell")
	}
	answer.Req.Seq, answer.Ver, answer.Err, answer.Pass = 3, 9, api.ErrFull, []byte("pass three")
	x.take(answer, 6) // an error is told nothing by
	x.read(1, "a", api.Eventual, 0, 7)
	l, _ = x.c.Again(1)
	if m, _ := proto.Get(l[0].Data); string(m.Pass) != "pass two" || x.c.Calls()[3].Floor != 3 {
		t.Error(m)
	}
	x.drop()
	x.fresh()
	x.read(1, "a", api.Eventual, 0, 8)
	l, _ = x.c.Again(1)
	if m, _ := proto.Get(l[0].Data); len(m.Pass) != 0 || x.c.Calls()[4].Floor != 0 {
		t.Error(m)
	}
}

// P21.3: what is none of its messages changes nothing.
func TestTakeOthers(t *testing.T) {
	req := api.Req{Client: 1, Seq: 1}
	for name, m := range map[string]api.Msg{
		"none":             {},
		"to another":       {Kind: api.MDone, From: 0, To: 9, Req: req, Ver: 1, Chain: row(5, 0)},
		"of another":       {Kind: api.MDone, From: 0, To: 10, Req: api.Req{Client: 0, Seq: 1}, Ver: 1, Chain: row(5, 0)},
		"a chain":          {Kind: api.MChain, From: 6, To: 10, Chain: row(5, 0)},
		"a write":          {Kind: api.MWrite, From: 0, To: 10, Req: req, Key: key("a"), Value: "x"},
		"what can't be":    {Kind: api.MDone, From: 0, To: 10, Req: req, Ver: -1, Chain: row(5, 0)},
		"to a node":        {Kind: api.MDone, From: 0, To: 1, Req: req, Chain: row(5, 0)},
		"of a greater one": {Kind: api.MDone, From: 0, To: 10, Req: api.Req{Client: 3, Seq: 1}, Chain: row(5, 0)},
	} {
		x := pairOf(t, 1)
		x.write(0, "a", "x", 1)
		if _, e := x.take(m, 2); e != api.ErrMsg {
			t.Errorf("%s: %d", name, e)
		}
		if !x.c.Busy() || x.c.Chain().Epoch != 0 {
			t.Errorf("%s: it changed something", name)
		}
	}
	x := pairOf(t, 1)
	for _, b := range [][]byte{nil, {}, {0}, make([]byte, 10000)} {
		if l, e := x.c.Take(b, 1); l != nil || e != api.ErrMsg {
			t.Error(b, e)
		}
	}
}

// P21.3: the newest chain counts, whatever becomes of the answer that it came with.
func TestChain(t *testing.T) {
	x := pairOf(t, 0)
	tell := func(seq, now int, c api.Chain, want api.Errno, epoch int) {
		t.Helper()
		_, e := x.take(api.Msg{Kind: api.MDone, From: 0, To: 9, Req: api.Req{Seq: seq}, Chain: c}, now)
		if e != want || x.c.Chain().Epoch != epoch {
			t.Error(e, x.c.Chain())
		}
	}
	tell(1, 1, row(2, 0, 1), api.ErrStale, 2)
	tell(1, 1, row(2, 3, 4), api.ErrStale, 2)
	if c := x.c.Chain(); c.Members[0].Node != 0 {
		t.Error("another one of the same epoch", c)
	}
	x.read(0, "a", 0, 0, 5)
	tell(2, 6, row(3, 1), api.ErrStale, 3)
	tell(1, 5, row(4, 2), api.ErrArg, 4)
	tell(1, 6, api.Chain{}, api.OK, 4)
	tell(1, 7, row(top, 2), api.ErrStale, top)
}

// P21.3: which errors end a call, and whom it goes to next.
func TestErrors(t *testing.T) {
	for e := range api.Errno(256) {
		for _, write := range []bool{true, false} {
			x := pairOf(t, 0)
			if write {
				x.write(2, "a", "x", 1)
			} else {
				x.read(2, "a", 0, 0, 1)
			}
			l, no := x.take(api.Msg{Kind: api.MDone, From: 2, To: 9, Req: api.Req{Seq: 1}, Err: e, Ver: 7, Value: "told", Chain: row(1, 4, 2)}, 2)
			stays := e == api.ErrHead || e == api.ErrWait || e == api.ErrStale || e == api.ErrEpoch
			if no != api.OK || x.c.Busy() != stays || (len(l) > 0) != (e == api.ErrHead && write) {
				t.Fatal(e, write, no, l)
			}
			if len(l) > 0 && (len(l) != 1 || l[0].To != 4) {
				t.Error(l)
			}
			c := x.c.Calls()[0]
			if value := map[bool]string{true: "x", false: "told"}[write]; !stays && (c.Err != e || c.Ver != 7 || c.Value != value || c.Ended != 2) {
				t.Error(c)
			}
		}
	}
}

// P21.3: a write that is refused goes to the head, if that is another one, and there is one.
func TestHead(t *testing.T) {
	for name, c := range map[string]struct {
		from  int
		chain api.Chain
		to    int
	}{
		"another":      {1, row(1, 0, 1), 0},
		"the same":     {0, row(1, 0, 1), -1},
		"no chain":     {1, api.Chain{}, -1},
		"not in it":    {5, row(9, 3), 3},
		"of a master":  {7, row(9, 3), 3},
		"of a client":  {12, row(9, 3), 3},
		"fresh behind": {1, api.Chain{Epoch: 2, Members: []api.Member{{Node: 2}, {Node: 1, Fresh: true}}}, 2},
	} {
		x := pairOf(t, 0)
		x.write(c.from%6, "a", "x", 1)
		l, e := x.take(api.Msg{Kind: api.MDone, From: c.from, To: 9, Req: api.Req{Seq: 1}, Err: api.ErrHead, Chain: c.chain}, 2)
		if e != api.OK || (len(l) == 0) != (c.to < 0) || len(l) == 1 && l[0].To != c.to {
			t.Errorf("%s: %v %d", name, l, e)
		}
	}
	// It is asked there that is the head by the newest chain, not by the one of the answer.
	x := pairOf(t, 0)
	x.take(api.Msg{Kind: api.MDone, From: 0, To: 9, Req: api.Req{Seq: 1}, Chain: row(7, 5)}, 1)
	x.write(0, "a", "x", 1)
	l, _ := x.take(api.Msg{Kind: api.MDone, From: 0, To: 9, Req: api.Req{Seq: 1}, Err: api.ErrHead, Chain: row(3, 4)}, 1)
	if len(l) != 1 || l[0].To != 5 {
		t.Error(l)
	}
}

// P21.3, P21.5: an answer ends a call behind its beginning.
func TestTimes(t *testing.T) {
	x := pairOf(t, 0)
	x.read(0, "a", 0, 0, 5)
	for _, now := range []int{math.MinInt, -1, 0, 4, 5} {
		wants(t, fmt.Sprint("at ", now), x.done(0, api.OK, 0, now), api.ErrArg)
		wants(t, fmt.Sprint("stays at ", now), x.done(0, api.ErrWait, 0, now), api.OK)
	}
	wants(t, "at 6", x.done(0, api.OK, 0, 6), api.OK)
	wants(t, "once more", x.done(0, api.OK, 0, 7), api.ErrStale)
}

// The rule Objects.
func TestObjects(t *testing.T) {
	b, _ := proto.Put(api.Msg{Kind: api.MDone, From: 0, To: 9, Req: api.Req{Seq: 1}, Chain: row(1, 0)})
	for _, c := range []*client.Client{nil, {}} {
		if c.Busy() || c.Calls() != nil || c.Chain().Epoch != 0 || c.Drop() != api.ErrNil || c.Fresh() != api.ErrNil {
			t.Error("told")
		}
		for what, ask := range map[string]func() ([]api.Frame, api.Errno){
			"write":     func() ([]api.Frame, api.Errno) { return c.Write(0, key("a"), "x", 1) },
			"bad write": func() ([]api.Frame, api.Errno) { return c.Write(0, key(""), "x", 1) },
			"read":      func() ([]api.Frame, api.Errno) { return c.Read(0, key("a"), 0, 0, 1) },
			"bad read":  func() ([]api.Frame, api.Errno) { return c.Read(0, key(""), 9, 0, 1) },
			"again":     func() ([]api.Frame, api.Errno) { return c.Again(0) },
			"take":      func() ([]api.Frame, api.Errno) { return c.Take(b, 1) },
			"bad take":  func() ([]api.Frame, api.Errno) { return c.Take(nil, 1) },
		} {
			if l, e := ask(); l != nil || e != api.ErrNil {
				t.Error(what, l, e)
			}
		}
	}
}

// Two clients know nothing of one another.
func TestApart(t *testing.T) {
	x, y := pairOf(t, 0), pairOf(t, 0)
	x.write(0, "a", "x", 1)
	x.done(0, api.OK, 5, 2)
	y.read(0, "a", 0, 0, 1)
	if c := y.c.Calls()[0]; c.Seq != 1 || c.Floor != 0 {
		t.Error(c)
	}
}

// someDone is an answer by chance; most are to what is on its way.
func someDone(r *rand.Rand, p *plain) api.Msg {
	m := api.Msg{Kind: api.MDone, From: r.IntN(6), To: 9 + p.id, Req: api.Req{Client: p.id, Seq: max(1, p.last-r.IntN(6)/5)}, Ver: r.IntN(6)}
	if r.IntN(2) == 0 {
		m.Err = []api.Errno{api.ErrHead, api.ErrHead, api.ErrWait, api.ErrStale, api.ErrEpoch, api.ErrFull, api.ErrPass}[r.IntN(7)]
	}
	if r.IntN(3) == 0 {
		m.Value = fmt.Sprint("told", r.IntN(9))
	}
	if r.IntN(2) == 0 {
		m.Pass = []byte(fmt.Sprint("pass", r.IntN(1000)))
	}
	if r.IntN(2) == 0 {
		m.Chain = row(max(1, p.chain.Epoch+r.IntN(3)-1), r.Perm(6)[:1+r.IntN(5)]...)
	}
	switch r.IntN(30) {
	case 0:
		m.To = r.IntN(14)
	case 1:
		m.Kind = r.IntN(18)
	case 2:
		m.Req.Client = r.IntN(5)
	case 3:
		m.Ver = -1
	}
	return m
}

// someStep lets something by chance happen, and is its error.
func someStep(r *rand.Rand, x *pair, now int) (string, api.Errno) {
	k := []string{"a", "b", "abcdefgh", "", "a\x00b", "\xff"}[min(r.IntN(40)/12, 5)+max(0, r.IntN(30)-27)]
	switch r.IntN(12) {
	case 0, 1:
		return "write", x.write(r.IntN(7)-r.IntN(30)/29, k, []string{"x", "y", "z", "", "\xff"}[max(0, r.IntN(30)-25)], now-r.IntN(20)/19*now)
	case 2, 3:
		return "read", x.read(r.IntN(7)-r.IntN(30)/29, k, r.IntN(13)/4, r.IntN(9)-r.IntN(20)/19*9, now)
	case 4:
		return "again", x.again(r.IntN(8) - 1)
	case 5:
		if r.IntN(4) > 0 {
			return "", api.OK
		}
		return "drop", x.drop()
	case 6:
		if r.IntN(4) > 0 {
			return "", api.OK
		}
		return "fresh", x.fresh()
	}
	_, e := x.take(someDone(r, x.p), now-r.IntN(3))
	return "take", e
}

// holds checks P21.4 to P21.6: one call at a time, ends behind beginnings, and floors that never fall from a session's first call on.
func (x *pair) holds(from int) {
	x.Helper()
	floors := map[api.Key]int{}
	calls := x.c.Calls()
	for i, c := range calls {
		onWay := x.c.Busy() && i == len(calls)-1
		if c.Seq != i+1 || onWay && c.Ended != 0 || c.Ended != 0 && c.Ended <= c.Began {
			x.Fatalf("P21.4, P21.5: %+v", calls)
		}
		if i >= from && c.Floor < floors[c.Key] {
			x.Fatalf("P21.6: %+v", calls[from:])
		}
		if i >= from {
			floors[c.Key] = c.Floor
		}
	}
}

// P21.1 to P21.6: whatever is asked, and answered.
func TestWalk(t *testing.T) {
	counts := map[string]int{}
	for seed := range uint64(40) {
		r := rand.New(rand.NewPCG(seed, 21))
		x := pairOf(t, r.IntN(4))
		from := 0 // the session's first call
		for now := range 400 {
			what, e := someStep(r, x, now)
			counts[fmt.Sprint(what, " ", int(e))]++
			if what == "fresh" && e == api.OK {
				from = len(x.c.Calls())
			}
			x.holds(from)
		}
	}
	for what, least := range map[string]int{
		"write 0": 200, "write 1": 50, "write 91": 50, "write 180": 200, "read 0": 200, "read 1": 50, "read 91": 20, "read 180": 200,
		"again 0": 100, "again 1": 50, "again 92": 50, "drop 0": 50, "drop 92": 20, "fresh 0": 100, "fresh 180": 100,
		"take 0": 500, "take 1": 20, "take 130": 100, "take 153": 500,
	} {
		if counts[what] < least {
			t.Errorf("%s: %d", what, counts[what])
		}
	}
}
