package judge_test

import (
	"fmt"
	"math"
	"math/rand/v2"
	"reflect"
	"slices"
	"testing"

	"towline/api"
	"towline/judge"
	"towline/lin"
)

var (
	a = api.Key{'a'}
	b = api.Key{'b'}
)

func rec(k api.Key, ver int, value string, client, seq int) api.Record {
	return api.Record{Index: 1, Epoch: 1, Key: k, Ver: ver, Value: value, Req: api.Req{Client: client, Seq: seq}}
}

func write(k api.Key, ver int, value string, client, seq, began, ended int) api.Call {
	return api.Call{Client: client, Seq: seq, Write: true, Key: k, Value: value, Ver: ver, Began: began, Ended: ended}
}

func read(k api.Key, ver int, value string, mode, bound, began, ended int) api.Call {
	return api.Call{Client: 3, Seq: 1, Key: k, Value: value, Ver: ver, Mode: mode, Bound: bound, Began: began, Ended: ended}
}

// said is all that is told of calls and records.
func said(calls []api.Call, recs []api.Record) string {
	text := fmt.Sprint(judge.Right(recs), " ", judge.Strong(calls, recs), judge.Values(calls, recs), judge.Bounds(calls), judge.Sessions(calls), judge.All(calls, recs), judge.Keys(calls))
	for _, k := range keys {
		text += fmt.Sprint(" ", judge.Ops(k, calls, recs))
	}
	return text
}

func plainSaid(calls []api.Call, recs []api.Record) string {
	text := fmt.Sprint(plainRight(recs), " ", plainStrong(calls, recs), plainValues(calls, recs), plainBounds(calls), plainSessions(calls), plainAll(calls, recs), plainKeys(calls))
	for _, k := range keys {
		text += fmt.Sprint(" ", plainOps(k, calls, recs))
	}
	return text
}

// P23.2: the chapter's example.
func TestExample(t *testing.T) {
	recs := []api.Record{rec(a, 1, "x", 0, 1)}
	w := write(a, 1, "x", 0, 1, 1, 2)
	for _, c := range []struct {
		mode   int
		strong bool
	}{{api.Strong, false}, {api.Eventual, true}} {
		calls := []api.Call{w, read(a, 0, "", c.mode, 0, 3, 4)}
		if judge.Strong(calls, recs) != c.strong || !judge.Values(calls, recs) || !judge.Sessions(calls) || judge.All(calls, recs) != c.strong {
			t.Error(c)
		}
	}
}

// P23.1: which records may be what was committed.
func TestRight(t *testing.T) {
	for _, c := range []struct {
		recs []api.Record
		want api.Errno
	}{
		{nil, api.OK},
		{[]api.Record{}, api.OK},
		{[]api.Record{rec(a, 1, "x", 0, 1)}, api.OK},
		{[]api.Record{rec(a, 0, "x", 0, 1)}, api.ErrJudge},
		{[]api.Record{rec(a, -1, "x", 0, 1)}, api.ErrJudge},
		{[]api.Record{rec(a, math.MinInt, "x", 0, 1)}, api.ErrJudge},
		{[]api.Record{rec(a, math.MaxInt, "x", 0, 1)}, api.ErrJudge},
		{[]api.Record{rec(a, math.MaxInt, "x", 0, 1), rec(a, math.MinInt, "x", 0, 2)}, api.ErrJudge},
		{[]api.Record{rec(a, 2, "x", 0, 1)}, api.ErrJudge},
		{[]api.Record{rec(a, 2, "x", 0, 1), rec(a, 1, "x", 0, 2)}, api.OK},
		{[]api.Record{rec(a, 2, "x", 0, 1), rec(b, 1, "x", 0, 2)}, api.ErrJudge},
		{[]api.Record{rec(a, 1, "x", 0, 1), rec(b, 1, "x", 0, 2)}, api.OK},
		{[]api.Record{rec(a, 1, "x", 0, 1), rec(a, 1, "x", 0, 2)}, api.ErrJudge},
		{[]api.Record{rec(a, 1, "x", 0, 1), rec(b, 1, "x", 0, 1)}, api.ErrJudge},
		{[]api.Record{rec(a, 1, "x", 0, 1), rec(b, 1, "x", 1, 1)}, api.OK},
		{[]api.Record{rec(a, 1, "x", 0, 1), rec(a, 2, "x", 0, 2), rec(a, 4, "x", 0, 4)}, api.ErrJudge},
		{[]api.Record{rec(a, 1, "x", 0, 1), rec(a, 2, "x", 0, 2), rec(a, 3, "x", 0, 4)}, api.OK},
		{[]api.Record{rec(a, 1, "x", 0, 1), rec(a, 2, "x", 0, 2), rec(a, 2, "x", 0, 2)}, api.ErrJudge},
		{[]api.Record{rec(api.Key{}, 1, "", -5, -7)}, api.OK},
	} {
		if got := judge.Right(c.recs); got != c.want || plainRight(c.recs) != c.want {
			t.Errorf("%v: %d, not %d", c.recs, got, c.want)
		}
		if got := judge.All(nil, c.recs); got != (c.want == api.OK) {
			t.Errorf("%v: all %v", c.recs, got)
		}
	}
}

// P23.1: keys of calls, each once, byte by byte; of all calls, whatever they are.
func TestKeys(t *testing.T) {
	if l := judge.Keys(nil); len(l) != 0 {
		t.Error(l)
	}
	calls := []api.Call{{Key: api.Key{0xff}}, {Key: api.Key{'b'}}, {Key: api.Key{'a', 'b'}}, {Key: api.Key{'b'}, Write: true}, {}, {Key: api.Key{'a'}, Err: api.ErrArg}, {Key: api.Key{'a', 0, 0, 0, 0, 0, 0, 1}}}
	want := []api.Key{{}, {'a'}, {'a', 0, 0, 0, 0, 0, 0, 1}, {'a', 'b'}, {'b'}, {0xff}}
	if got := judge.Keys(calls); !slices.Equal(got, want) {
		t.Error(got)
	}
}

// P23.1: which calls count, and as what.
func TestOps(t *testing.T) {
	recs := []api.Record{rec(b, 7, "no", 0, 2), rec(a, 9, "x", 0, 2), rec(a, 5, "x", 1, 2)}
	failed := write(a, 4, "x", 0, 2, 1, 9)
	failed.Err = api.ErrFull
	refused := read(a, 4, "x", api.Strong, 0, 1, 9)
	refused.Err = api.ErrWait
	moded := write(a, 4, "x", 0, 2, 1, 9)
	moded.Mode, moded.Bound = api.Eventual, 5
	for i, c := range []struct {
		call api.Call
		want []api.Op
	}{
		{write(a, 4, "x", 0, 2, 1, 9), []api.Op{{Write: true, Value: "x", Ver: 4, Began: 1, Ended: 9}}},
		{moded, []api.Op{{Write: true, Value: "x", Ver: 4, Began: 1, Ended: 9}}},
		{write(b, 4, "x", 0, 2, 1, 9), nil},
		{write(a, 4, "x", 0, 2, 1, 0), []api.Op{{Write: true, Value: "x", Ver: 9, Began: 1}}},
		{failed, []api.Op{{Write: true, Value: "x", Ver: 9, Began: 1}}},
		{write(a, 4, "x", 2, 0, 1, 0), []api.Op{{Write: true, Value: "x", Began: 1}}},
		{write(a, 4, "x", 0, 3, 1, 0), []api.Op{{Write: true, Value: "x", Began: 1}}},
		{write(a, 4, "x", 0, 3, 1, -1), []api.Op{{Write: true, Value: "x", Ver: 4, Began: 1, Ended: -1}}},
		{read(a, 4, "x", api.Strong, 5, 1, 9), []api.Op{{Value: "x", Ver: 4, Began: 1, Ended: 9}}},
		{read(a, 4, "x", api.Bounded, 0, 1, 9), []api.Op{{Value: "x", Ver: 4, Began: 1, Ended: 9}}},
		{read(a, 4, "x", api.Bounded, 1, 1, 9), nil},
		{read(a, 4, "x", api.Bounded, -1, 1, 9), nil},
		{read(a, 4, "x", api.Eventual, 0, 1, 9), nil},
		{read(a, 4, "x", -1, 0, 1, 9), nil},
		{read(a, 4, "x", 3, 0, 1, 9), nil},
		{read(a, 4, "x", api.Strong, 0, 1, 0), nil},
		{refused, nil},
	} {
		if got := judge.Ops(a, []api.Call{c.call}, recs); !slices.Equal(got, c.want) {
			t.Errorf("%d: %+v: %+v, not %+v", i, c.call, got, c.want)
		}
	}
	calls := []api.Call{write(a, 2, "y", 0, 4, 5, 6), write(b, 1, "z", 1, 1, 1, 2), write(a, 1, "x", 0, 1, 1, 2)}
	if l := judge.Ops(a, calls, nil); len(l) != 2 || l[0].Value != "y" || l[1].Value != "x" {
		t.Error("order:", l)
	}
}

// P23.2: values of answered calls.
func TestValues(t *testing.T) {
	recs := []api.Record{rec(a, 1, "x", 0, 1), rec(a, 2, "y", 0, 2), rec(b, 1, "z", 1, 1), rec(a, 3, "old", 2, 1), rec(a, 3, "new", 2, 2), rec(b, 2, "p", 3, 9), rec(b, 3, "q", 3, 9), rec(b, -1, "m", 4, 1), rec(b, 0, "n", 4, 2)}
	erred := read(a, 9, "no", 0, 0, 1, 2)
	erred.Err = api.ErrWait
	for i, c := range []struct {
		call api.Call
		want bool
	}{
		{write(a, 1, "x", 0, 1, 1, 2), true},
		{write(a, 2, "x", 0, 1, 1, 2), false},
		{write(a, 1, "y", 0, 1, 1, 2), false},
		{write(b, 1, "x", 0, 1, 1, 2), false},
		{write(a, 1, "x", 0, 3, 1, 2), false},
		{write(a, 1, "x", 1, 1, 1, 2), false},
		{write(a, 0, "", 5, 5, 1, 2), false},
		{write(api.Key{}, 0, "", 5, 5, 1, 2), false},
		{write(a, 9, "no", 0, 1, 1, 0), true},
		{write(b, 2, "p", 3, 9, 1, 2), false},
		{write(b, 3, "q", 3, 9, 1, 2), true},
		{erred, true},
		{read(a, 1, "x", 0, 0, 1, 2), true},
		{read(a, 1, "x", 9, 0, 1, 2), true},
		{read(a, 1, "y", 2, 0, 1, 2), false},
		{read(a, 3, "old", 2, 0, 1, 2), false},
		{read(a, 3, "new", 1, 0, 1, 2), true},
		{read(a, 4, "", 2, 0, 1, 2), false},
		{read(a, 0, "", 2, 0, 1, 2), true},
		{read(a, 0, "x", 2, 0, 1, 2), false},
		{read(b, 0, "n", 2, 0, 1, 2), false},
		{read(b, 0, "", 2, 0, 1, 2), true},
		{read(b, -1, "m", 2, 0, 1, 2), true},
		{read(b, -2, "", 2, 0, 1, 2), false},
		{read(a, 9, "no", 0, 0, 1, 0), true},
	} {
		calls := []api.Call{write(a, 2, "y", 0, 2, 1, 2), c.call, read(b, 1, "z", 2, 0, 1, 2)}
		if got := judge.Values(calls, recs); got != c.want || plainValues(calls, recs) != c.want {
			t.Errorf("%d: %+v: %v", i, c.call, got)
		}
	}
}

// P23.2: how far behind bounded reads may be.
func TestBounds(t *testing.T) {
	failed := write(a, 50, "x", 0, 9, 1, 2)
	failed.Err = api.ErrFull
	past := []api.Call{write(a, 5, "x", 0, 1, 1, 10), write(a, 9, "x", 0, 2, 1, 20), write(a, 7, "x", 0, 3, 1, 30), write(a, 40, "x", 0, 4, 1, 0), write(b, 60, "x", 1, 1, 1, 2), failed, write(a, -3, "x", 1, 2, 1, 2), read(a, 99, "x", 0, 0, 1, 2)}
	erred := read(a, 0, "", 1, 0, 90, 91)
	erred.Err = api.ErrWait
	for i, c := range []struct {
		call api.Call
		want bool
	}{
		{read(a, 0, "", 1, 0, 10, 99), true}, // a write that ended at just that time is not ahead
		{read(a, 0, "", 1, 0, 2, 99), true},
		{read(a, 0, "", 1, 0, 11, 99), false},
		{read(a, 5, "", 1, 0, 11, 99), true},
		{read(a, 4, "", 1, 0, 11, 99), false},
		{read(a, 4, "", 1, 1, 11, 99), true},
		{read(a, 3, "", 1, 1, 11, 99), false},
		{read(a, 5, "", 1, 0, 20, 99), true},
		{read(a, 5, "", 1, 3, 21, 99), false},
		{read(a, 5, "", 1, 4, 21, 99), true},
		{read(a, 7, "", 1, 0, 31, 99), false}, // the greatest, not the last
		{read(a, 9, "", 1, 0, 31, 99), true},
		{read(a, 100, "", 1, 0, 31, 99), true},
		{read(a, 9, "", 1, -5, 31, 99), true},
		{read(a, 8, "", 1, -5, 31, 99), false},
		{read(a, 8, "", 1, math.MinInt, 31, 99), false},
		{read(a, 0, "", 1, math.MaxInt, 31, 99), true},
		{read(a, math.MinInt, "", 1, math.MaxInt, 31, 99), false},
		{read(a, -math.MaxInt+9, "", 1, math.MaxInt, 31, 99), true},
		{read(a, -math.MaxInt+8, "", 1, math.MaxInt, 31, 99), false},
		{read(a, math.MaxInt, "", 1, 0, 31, 99), true},
		{read(a, -1, "", 1, 0, 2, 99), false},
		{read(a, -1, "", 1, 1, 2, 99), true},
		{read(a, 0, "", 0, 0, 31, 99), true},
		{read(a, 0, "", 2, 0, 31, 99), true},
		{read(a, 0, "", 1, 0, 31, 0), true},
		{erred, true},
		{read(api.Key{'c'}, 0, "", 1, 0, 31, 99), true},
		{read(b, 0, "", 1, 59, 31, 99), false},
		{read(b, 0, "", 1, 60, 31, 99), true},
		{write(a, 0, "", 3, 9, 31, 99), true},
	} {
		if c.call.Write {
			c.call.Mode = api.Bounded
		}
		for _, calls := range [][]api.Call{append(slices.Clone(past), c.call), append([]api.Call{c.call}, past...)} {
			if got := judge.Bounds(calls); got != c.want || plainBounds(calls) != c.want {
				t.Errorf("%d: %+v: %v", i, c.call, got)
			}
		}
	}
	if !judge.Bounds(nil) {
		t.Error("none")
	}
	// The greatest version is at least 0.
	for ver, want := range map[int]bool{-4: false, -1: false, 0: true} {
		if got := judge.Bounds([]api.Call{write(a, -5, "x", 0, 1, 1, 2), read(a, ver, "", 1, 0, 3, 4)}); got != want {
			t.Error(ver, got)
		}
	}
}

// P23.2: sessions never go back.
func TestSessions(t *testing.T) {
	for i, c := range []struct {
		mode, ver, floor, ended int
		err                     api.Errno
		write                   bool
		want                    bool
	}{
		{2, 3, 3, 1, 0, false, true}, {2, 2, 3, 1, 0, false, false}, {2, 4, 3, 1, 0, false, true}, {1, 2, 3, 1, 0, false, true}, {0, 2, 3, 1, 0, false, true},
		{2, 2, 3, 0, 0, false, true}, {2, 2, 3, 1, api.ErrWait, false, true}, {2, 2, 3, 1, 0, true, true}, {3, 2, 3, 1, 0, false, true},
		{2, math.MinInt, math.MaxInt, 1, 0, false, false}, {2, math.MaxInt, math.MinInt, 1, 0, false, true},
	} {
		calls := []api.Call{{Mode: 2, Ver: 1, Floor: 1, Ended: 1}, {Mode: c.mode, Ver: c.ver, Floor: c.floor, Ended: c.ended, Err: c.err, Write: c.write}}
		if got := judge.Sessions(calls); got != c.want {
			t.Errorf("%d: %+v: %v", i, c, got)
		}
	}
	if !judge.Sessions(nil) {
		t.Error("none")
	}
}

// P23.2: Strong is asked key by key.
func TestStrong(t *testing.T) {
	recs := []api.Record{rec(a, 1, "x", 0, 1), rec(b, 1, "y", 0, 2), rec(a, 2, "z", 1, 1)}
	calls := []api.Call{write(a, 1, "x", 0, 1, 1, 2), write(b, 1, "y", 0, 2, 3, 4), write(a, 0, "z", 1, 1, 1, 0), read(a, 1, "x", 0, 0, 5, 6), read(a, 2, "z", 1, 0, 7, 8)}
	if !judge.All(calls, recs) {
		t.Error("good calls")
	}
	for i, l := range [][]api.Call{
		append(slices.Clone(calls), read(b, 0, "", 0, 0, 5, 6)),
		append(slices.Clone(calls), read(b, 0, "", 1, 0, 5, 6)),
		append(slices.Clone(calls), read(a, 1, "x", 0, 0, 9, 10)),
		append(slices.Clone(calls), read(a, 3, "x", 0, 0, 9, 10)),
		append(slices.Clone(calls), read(a, 2, "x", 0, 0, 9, 10)),
		append(slices.Clone(calls), write(b, 1, "q", 2, 2, 9, 10)),
	} {
		if judge.Strong(l, recs) || judge.All(l, recs) {
			t.Error(i)
		}
	}
	// Without the record, nobody wrote what was read.
	if judge.Strong(calls, recs[:2]) {
		t.Error("a write that was not done was read")
	}
	if !judge.Strong(nil, recs) || !judge.Strong(calls[:3], recs) {
		t.Error("fewer")
	}
}

// All is that each is so.
func TestAll(t *testing.T) {
	recs := []api.Record{rec(a, 1, "x", 0, 1), rec(a, 2, "y", 0, 2)}
	calls := []api.Call{write(a, 1, "x", 0, 1, 1, 2), write(a, 2, "y", 0, 2, 3, 4)}
	behind := read(a, 1, "x", 1, 0, 5, 6)
	behind.Bound = 1
	if !judge.All(append(calls[:2:2], behind), recs) {
		t.Error("good calls")
	}
	floor := read(a, 1, "x", 2, 0, 5, 6)
	floor.Floor = 2
	two := []api.Call{write(a, 1, "x", 0, 1, 1, 2), write(b, 5, "y", 1, 2, 3, 4)}
	far := read(b, 1, "y", 1, 3, 5, 6)
	for i, c := range []struct {
		calls []api.Call
		recs  []api.Record
		wrong string // which of Right, Strong, Values, Bounds, Sessions is not so
	}{
		{calls, append(recs[:2:2], rec(b, 2, "x", 1, 1)), "right"},
		{append(calls[:2:2], read(a, 1, "x", 0, 0, 5, 6)), recs, "strong"},
		{append(calls[:2:2], read(a, 1, "y", 2, 0, 5, 6)), recs, "values"},
		{append(two[:2:2], far), []api.Record{rec(a, 1, "x", 0, 1), rec(b, 1, "y", 2, 1), rec(b, 2, "y", 2, 2), rec(b, 3, "y", 2, 3), rec(b, 4, "y", 2, 4), rec(b, 5, "y", 1, 2)}, "bounds"},
		{append(calls[:2:2], floor), recs, "sessions"},
	} {
		got := map[string]bool{"right": judge.Right(c.recs) == api.OK, "strong": judge.Strong(c.calls, c.recs), "values": judge.Values(c.calls, c.recs), "bounds": judge.Bounds(c.calls), "sessions": judge.Sessions(c.calls)}
		for name, so := range got {
			if so != (name != c.wrong) {
				t.Errorf("%d: %s: %v", i, name, so)
			}
		}
		if judge.All(c.calls, c.recs) {
			t.Errorf("%d: all, but for %s", i, c.wrong)
		}
	}
}

var odd = []int{math.MinInt, math.MinInt + 1, -1 << 40, -2, -1, 0, 1, 2, 3, 4, 5, 1 << 40, math.MaxInt - 1, math.MaxInt}

// spoilt is calls and records with one thing changed.
func spoilt(r *rand.Rand, calls []api.Call, recs []api.Record) ([]api.Call, []api.Record) {
	calls, recs = slices.Clone(calls), slices.Clone(recs)
	n := odd[r.IntN(len(odd))]
	if r.IntN(3) > 0 {
		n = r.IntN(6)
	}
	if c := &calls[r.IntN(len(calls))]; r.IntN(3) > 0 || len(recs) == 0 {
		switch r.IntN(12) {
		case 0:
			c.Client = n
		case 1:
			c.Seq = n
		case 2:
			c.Write = !c.Write
		case 3:
			c.Key = keys[r.IntN(len(keys))]
		case 4:
			c.Value = string(rune('a' + r.IntN(26)))
		case 5:
			c.Mode = n
		case 6:
			c.Bound = n
		case 7:
			c.Began = n
		case 8:
			c.Ended = n
		case 9:
			c.Ver = n
		case 10:
			c.Err = api.Errno(n)
		case 11:
			c.Floor = n
		}
		return calls, recs
	}
	i := r.IntN(len(recs))
	switch x := &recs[i]; r.IntN(7) {
	case 0:
		x.Key = keys[r.IntN(len(keys))]
	case 1:
		x.Ver = n
	case 2:
		x.Value = "?"
	case 3:
		x.Req.Client = n
	case 4:
		x.Req.Seq = n
	case 5:
		recs = slices.Delete(recs, i, i+1)
	case 6:
		recs = append(recs, *x)
	}
	return calls, recs
}

// P23.1, P23.2: the chapter's words are held against it, on calls that are explained, and on spoilt ones.
func TestModel(t *testing.T) {
	counts := map[string]int{}
	for seed := range uint64(4000) {
		r := rand.New(rand.NewPCG(seed, 23))
		calls, recs := honest(r, 1+r.IntN(30))
		if !judge.All(calls, recs) {
			t.Fatalf("seed %d: %s: %v, %v", seed, said(calls, recs), calls, recs)
		}
		for range r.IntN(5) {
			calls, recs = spoilt(r, calls, recs)
		}
		got := said(calls, recs)
		if want := plainSaid(calls, recs); got != want {
			t.Fatalf("seed %d: %s, not %s: %v, %v", seed, got, want, calls, recs)
		}
		for name, so := range map[string]bool{"right": judge.Right(recs) == api.OK, "strong": judge.Strong(calls, recs), "values": judge.Values(calls, recs), "bounds": judge.Bounds(calls), "sessions": judge.Sessions(calls), "all": judge.All(calls, recs)} {
			counts[fmt.Sprint(name, " ", so)]++
		}
		follows(t, calls, recs, counts)
	}
	for name, least := range map[string]int{
		"right true": 1000, "right false": 200, "strong true": 1000, "strong false": 200, "values true": 1000, "values false": 200, "bounds true": 1000, "bounds false": 30,
		"sessions true": 1000, "sessions false": 30, "all true": 500, "all false": 500, "ordered": 1000, "fewer": 10000,
	} {
		if counts[name] < least {
			t.Errorf("%s: %d times: %v", name, counts[name], counts)
		}
	}
}

// follows is P23.3: of what is Strong there is an order; P23.4: what is so of calls is so without one that is no write.
func follows(t *testing.T, calls []api.Call, recs []api.Record, counts map[string]int) {
	t.Helper()
	strong := judge.Strong(calls, recs)
	for _, k := range judge.Keys(calls) {
		l := judge.Ops(k, calls, recs)
		if !strong || lin.Right(l) != api.OK {
			continue
		}
		counts["ordered"]++
		row, ok, e := lin.Order(l...)
		if !ok || e != api.OK || !lin.Fits(row, l...) || !lin.Fits(lin.By(l...), l...) {
			t.Fatalf("no order of %v", l)
		}
	}
	for i, c := range calls {
		if c.Write {
			continue
		}
		fewer := slices.Delete(slices.Clone(calls), i, i+1)
		counts["fewer"]++
		if strong && !judge.Strong(fewer, recs) || judge.Values(calls, recs) && !judge.Values(fewer, recs) || judge.Bounds(calls) && !judge.Bounds(fewer) ||
			judge.Sessions(calls) && !judge.Sessions(fewer) || judge.All(calls, recs) && !judge.All(fewer, recs) {
			t.Fatalf("without %+v it is not so: %v", c, calls)
		}
	}
}

// Many calls, and many keys, are judged in time.
func TestMany(t *testing.T) {
	var calls []api.Call
	var recs []api.Record
	for i := range 100000 {
		k := api.Key{byte(i), byte(i >> 8), byte(i >> 16), 1}
		calls = append(calls, write(k, 1, "x", 0, i+1, 3*i+1, 3*i+2), read(k, 1, "x", i%3, 0, 3*i+2, 3*i+3))
		calls = append(calls, write(a, i+1, "y", 1, i+1, 3*i+1, 3*i+3), read(a, i, "y", 1, 1, 3*i+2, 3*i+3))
		recs = append(recs, rec(k, 1, "x", 0, i+1), rec(a, i+1, "y", 1, i+1))
	}
	calls[3].Value = ""
	if !judge.All(calls, recs) || len(judge.Keys(calls)) != 100001 || len(judge.Ops(a, calls, recs)) != 100000 {
		t.Error(judge.Right(recs), judge.Strong(calls, recs), judge.Values(calls, recs), judge.Bounds(calls))
	}
}

// DOC.md, Memory: what is handed in is not changed; answers are new.
func TestMemory(t *testing.T) {
	r := rand.New(rand.NewPCG(1, 2))
	calls, recs := honest(r, 20)
	calls, recs = slices.Grow(calls, 5), slices.Grow(recs, 5)
	for i := len(calls); i < cap(calls); i++ {
		calls[:cap(calls)][i].Ver = 77
	}
	wasCalls, wasRecs := slices.Clone(calls[:cap(calls)]), slices.Clone(recs[:cap(recs)])
	first := said(calls, recs)
	if !slices.Equal(calls[:cap(calls)], wasCalls) || !slices.Equal(recs[:cap(recs)], wasRecs) {
		t.Error("what was handed in has changed")
	}
	for _, k := range judge.Keys(calls) {
		l, m := judge.Keys(calls), judge.Ops(k, calls, recs)
		clear(l[:cap(l)])
		clear(m[:cap(m)])
	}
	if said(calls, recs) != first || !reflect.DeepEqual(calls[:cap(calls)], wasCalls) {
		t.Error("an answer is shared")
	}
}
