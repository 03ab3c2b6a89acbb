package chain_test

import (
	"fmt"
	"math"
	"strings"
	"testing"

	"towline/api"
	"towline/chain"
	"towline/pass"
	"towline/shelf"
	"towline/trace"
)

// row is a chain of an epoch; 10 and a node is that one, fresh.
func row(epoch int, l ...int) api.Chain {
	c := api.Chain{Epoch: epoch}
	for _, n := range l {
		c.Members = append(c.Members, api.Member{Node: n % 10, Fresh: n > 9})
	}
	return c
}

// text is a message as a text; of its pass what was seen.
func text(m api.Msg) string {
	b := m.Pass
	m.Pass = nil
	s, e := trace.Text(m)
	if e != api.OK {
		return fmt.Sprint("no message ", m.Kind)
	}
	seen, e := pass.Read([]byte(secret), b)
	if e != api.OK {
		return s + " no pass"
	}
	for _, x := range seen {
		s += fmt.Sprint(" saw ", shelf.Name(x.Key), " ", x.Ver)
	}
	return s
}

// says is what an effect sends, a semicolon between each two; what goes to three masters stands there once, as to 678.
func says(f api.Effect) string {
	var l []string
	for i := 0; i < len(f.Send); i++ {
		s := text(f.Send[i])
		if f.Send[i].To == 6 && i+2 < len(f.Send) {
			seven, eight := f.Send[i], f.Send[i]
			seven.To, eight.To = 7, 8
			if text(f.Send[i+1]) == text(seven) && text(f.Send[i+2]) == text(eight) {
				s = strings.Replace(s, ">6", ">678", 1)
				i += 2
			}
		}
		l = append(l, s)
	}
	return strings.Join(l, "; ")
}

// stores is what an effect says is stored.
func stores(f api.Effect) string {
	var l []string
	if f.Base {
		l = append(l, fmt.Sprint("base ", f.Table.Index))
	}
	if f.Cut >= 0 {
		l = append(l, fmt.Sprint("cut ", f.Cut))
	}
	for _, x := range f.Recs {
		l = append(l, fmt.Sprint("rec ", x.Index))
	}
	if f.Fold != 0 {
		l = append(l, fmt.Sprint("fold ", f.Fold))
	}
	if f.Era != 0 {
		l = append(l, fmt.Sprint("era ", f.Era))
	}
	return strings.Join(l, ", ")
}

// want checks an effect: what it stores, and what it sends.
func (x *pair) want(f api.Effect, stored, sent string) {
	x.Helper()
	if f.Err != api.OK || stores(f) != stored || says(f) != sent {
		x.Errorf("%d:\n%s\n%s\nnot\n%s\n%s", f.Err, stores(f), says(f), stored, sent)
	}
}

// fails checks that a message is refused, and that nothing has changed.
func (x *pair) fails(m api.Msg, e api.Errno) {
	x.Helper()
	was := state(x.s)
	f := x.take(m)
	if told(f) != told(api.Effect{Err: e, Cut: -1}) || state(x.s) != was {
		x.Errorf("%+v: %s, not %d", m, told(f), e)
	}
}

// rec is a record of epoch 1 of client 0: the key's version counts; by its number the request.
func rec(index int, k string, ver int) api.Record {
	return api.Record{Index: index, Epoch: 1, Key: key(k), Ver: ver, Value: fmt.Sprint("v", index), Req: api.Req{Client: 0, Seq: index}}
}

// recs is so many records of key a behind nothing.
func recs(n int) []api.Record {
	var l []api.Record
	for i := 1; i <= n; i++ {
		l = append(l, rec(i, "a", i))
	}
	return l
}

// shelfOf is a shelf with so many records of key a, up to low in the table, up to commit committed.
func shelfOf(t *testing.T, low, commit, last int) *shelf.Shelf {
	t.Helper()
	s := shelf.New()
	for _, x := range recs(last) {
		if s.Add(x) != api.OK {
			t.Fatal(x)
		}
		if x.Index <= low {
			s.Settle(x.Index)
			s.Fold(x.Index)
		}
	}
	if s.Settle(commit) != api.OK {
		t.Fatal(low, commit, last)
	}
	return s
}

// in is a node of a chain that it has just adopted.
func in(t *testing.T, id int, on *shelf.Shelf, c api.Chain) *pair {
	t.Helper()
	x := pairOf(t, id, on, c.Epoch-1)
	x.adopts(c)
	return x
}

// adopts is that a master tells a chain.
func (x *pair) adopts(c api.Chain) api.Effect {
	x.Helper()
	return x.take(api.Msg{Kind: api.MChain, From: 7, To: x.p.id, Chain: c})
}

// P18.1: what a node is made of.
func TestNew(t *testing.T) {
	good, k := shelfOf(t, 2, 3, 5), []byte(secret)
	for _, c := range []struct {
		id    int
		key   []byte
		s     *shelf.Shelf
		era   int
		errno api.Errno
	}{
		{0, k, good, 0, api.OK},
		{5, k, shelf.New(), 1 << 40, api.OK},
		{-1, k, good, 0, api.ErrArg},
		{6, k, good, 0, api.ErrArg},
		{math.MinInt, k, good, 0, api.ErrArg},
		{math.MaxInt, k, good, 0, api.ErrArg},
		{0, nil, good, 0, api.ErrArg},
		{0, k[:15], good, 0, api.ErrArg},
		{0, append(k[:16:16], 0), good, 0, api.ErrArg},
		{0, k, good, -1, api.ErrArg},
		{0, k, good, 1<<40 + 1, api.ErrArg},
		{0, k, good, math.MaxInt, api.ErrArg},
		{0, k, nil, 0, api.ErrNil},
		{0, k, &shelf.Shelf{}, 0, api.ErrNil},
		{9, nil, nil, -1, api.ErrNil},
		{9, nil, &shelf.Shelf{}, -1, api.ErrNil},
	} {
		s, e := chain.New(c.id, c.key, c.s, c.era)
		if e != c.errno || (s == nil) != (e != api.OK) {
			t.Errorf("%d, %d bytes, era %d: %v, %d", c.id, len(c.key), c.era, s, e)
		}
		if e == api.OK && state(s) != plainOf(c.id, c.s, c.era).String() {
			t.Errorf("%q", state(s))
		}
	}
}

// P18.1: what a node tells of itself.
func TestTold(t *testing.T) {
	x := pairOf(t, 1, shelfOf(t, 2, 3, 5), 4)
	if x.s.Chain().Epoch != 0 || x.s.Era() != 4 || x.s.Whole() {
		t.Error(state(x.s))
	}
	for _, c := range []struct {
		chain api.Chain
		whole bool
	}{
		{row(5, 0, 1), true}, {row(6, 0, 11), false}, {row(7, 1, 10), true}, {row(8, 0, 2), false}, {row(9, 1), true},
	} {
		x.adopts(c.chain)
		if fmt.Sprint(x.s.Chain()) != fmt.Sprint(c.chain) || x.s.Era() != c.chain.Epoch || x.s.Whole() != c.whole {
			t.Error(state(x.s), c)
		}
	}
}

// The rule Objects: of a node that New did not make.
func TestNobody(t *testing.T) {
	for _, s := range []*chain.State{nil, {}} {
		w, r := s.Waiting()
		if s.Chain().Epoch != 0 || s.Chain().Members != nil || s.Era() != 0 || s.Shelf() != nil || s.Whole() || w != 0 || r != 0 {
			t.Error(s)
		}
		nothing := told(api.Effect{Err: api.ErrNil, Cut: -1})
		for _, m := range []api.Msg{{}, {Kind: api.MAck, From: 1, Epoch: 1}, {Kind: api.MChain, From: 6, Chain: row(1, 0)}, {Kind: 99}} {
			if f := s.Take(m); told(f) != nothing {
				t.Error(told(f))
			}
		}
		if f := s.Tick(); told(f) != nothing {
			t.Error(told(f))
		}
	}
}

// P18.2: what a node sends by itself, by what it is.
func TestTick(t *testing.T) {
	for _, c := range []struct {
		name string
		x    *pair
		want string
	}{
		{"new", pairOf(t, 1, shelf.New(), 0), ""},
		{"anew", pairOf(t, 1, shelf.New(), 1), "tell 1>678 cmd=3.1.0.1"},
		{"anew, late", pairOf(t, 5, shelfOf(t, 0, 0, 3), 1<<40), "tell 5>678 cmd=3.5.0.1099511627776"},
		{"alone", in(t, 1, shelfOf(t, 0, 0, 2), row(1, 1)), ""},
		{"elsewhere", in(t, 1, shelfOf(t, 0, 0, 2), row(1, 0, 2)), ""},
		{"head", in(t, 1, shelfOf(t, 0, 1, 2), row(2, 1, 0)), "put 1>0 epoch=2 index=2 prev=2 last=1 commit=1"},
		{"tail", in(t, 1, shelfOf(t, 0, 0, 2), row(2, 0, 1)), "ack 1>0 epoch=2 commit=2"},
		{"tail of nothing", in(t, 1, shelf.New(), row(2, 0, 1)), "ack 1>0 epoch=2"},
		{"between", in(t, 1, shelfOf(t, 0, 1, 2), row(2, 3, 1, 0)), "put 1>0 epoch=2 index=2 prev=2 last=1 commit=1; ack 1>3 epoch=2 commit=1"},
		{"fresh", in(t, 1, shelfOf(t, 0, 1, 2), row(2, 3, 11, 0)), ""},
		{"fresh tail", in(t, 1, shelfOf(t, 0, 1, 2), row(2, 3, 11)), ""},
	} {
		t.Run(c.name, func(t *testing.T) {
			c.x.T = t
			c.x.want(c.x.tick(), "", c.want)
			c.x.want(c.x.tick(), "", c.want)
		})
	}
}

// P18.2: a fresh node that has all says so, until it is told that it is whole.
func TestTickSynced(t *testing.T) {
	x := in(t, 1, shelf.New(), row(2, 3, 11, 0))
	x.take(api.Msg{Kind: api.MPut, From: 3, To: 1, Epoch: 2, Index: 1, Recs: recs(1)})
	x.want(x.tick(), "", "put 1>0 epoch=2 index=1 prev=1 last=1; ack 1>3 epoch=2; tell 1>678 cmd=4.1.0.2")
	x.want(x.adopts(row(2, 3, 1, 0)), "", "")
	x.want(x.tick(), "", "put 1>0 epoch=2 index=1 prev=1 last=1; ack 1>3 epoch=2")
}

// read is a client's read of key a.
func (x *pair) read(client, seq, mode, bound int) api.Effect {
	x.Helper()
	return x.take(api.Msg{Kind: api.MRead, From: 9 + client, To: x.p.id, Req: api.Req{Client: client, Seq: seq}, Key: key("a"), Mode: mode, Bound: bound})
}

// P18.2: reads that wait are pursued, in order, by what they wait for.
func TestTickReads(t *testing.T) {
	x := in(t, 1, shelfOf(t, 0, 1, 3), row(2, 3, 1, 0))
	x.read(2, 5, api.Strong, 0)
	x.read(0, 1, api.Bounded, 2)
	x.read(1, 1, api.Bounded, 1)
	same := "put 1>0 epoch=2 index=3 prev=3 last=1 commit=1; ack 1>3 epoch=2 commit=1; "
	x.want(x.tick(), "", same+"ask 1>0 epoch=2 nonce=1 key=61; sure 1>678 epoch=2 nonce=2; ask 1>0 epoch=2 nonce=3 key=61")
	x.take(api.Msg{Kind: api.MVer, From: 0, To: 1, Epoch: 2, Nonce: 3, Ver: 2})
	x.want(x.tick(), "", same+"ask 1>0 epoch=2 nonce=1 key=61; sure 1>678 epoch=2 nonce=2; sure 1>678 epoch=2 nonce=3")
}

// Behind each step: of 16 records and more those that were committed ahead of it are folded.
func TestFold(t *testing.T) {
	ack := func(x *pair, commit int) api.Effect {
		return x.take(api.Msg{Kind: api.MAck, From: 1, To: 0, Epoch: 2, Commit: commit})
	}
	for _, c := range []struct {
		low, commit, last int
		tick              string
	}{
		{0, 0, 16, ""}, {0, 15, 15, ""}, {0, 1, 16, "fold 1"}, {0, 16, 16, "fold 16"}, {0, 3, 24, "fold 3"},
		{4, 4, 20, ""}, {4, 5, 20, "fold 5"}, {4, 19, 19, ""}, {4, 19, 20, "fold 19"}, {4, 4, 28, ""},
	} {
		x := pairOf(t, 0, shelfOf(t, c.low, c.commit, c.last), 1)
		x.want(x.tick(), c.tick, "tell 0>678 cmd=3.0.0.1")
		x.want(x.tick(), "", "tell 0>678 cmd=3.0.0.1")
	}
	x := in(t, 0, shelfOf(t, 0, 0, 17), row(2, 0, 1))
	x.want(ack(x, 5), "", "")
	x.want(ack(x, 7), "fold 5", "")
	x.want(ack(x, 7), "", "")
	x = pairOf(t, 0, shelfOf(t, 0, 9, 17), 1)
	x.want(x.adopts(row(2, 0)), "fold 9, era 2", "")
	x = in(t, 0, shelfOf(t, 0, 15, 15), row(2, 0))
	x.want(x.write(1, 1, "a", "x"), "rec 16, fold 15", "done 0>10 ver=16 req=1.1 chain=2 members=0.0 saw a 16")
	x = in(t, 0, shelfOf(t, 0, 2, 15), row(2, 0, 1))
	x.want(x.write(1, 1, "a", "x"), "", "done 0>10 err=7 req=1.1 chain=2 members=0.0,1.0")
	x = pairOf(t, 0, shelfOf(t, 0, 9, 17), 1)
	x.fails(api.Msg{Kind: api.MAck, From: 1, To: 0, Epoch: 2}, api.ErrEpoch)
}
