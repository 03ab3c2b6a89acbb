package shelf_test

import (
	"math"
	"testing"

	"towline/api"
	"towline/shelf"
)

// crowded is one with twelve keys, and so many records behind its table, of which so many are committed.
func crowded(t *testing.T, behind, committed int) *shelf.Shelf {
	t.Helper()
	s, e := shelf.From(wide(12))
	if e != api.OK {
		t.Fatal(e)
	}
	for i := range behind {
		x := api.Record{Index: 13 + i, Epoch: 5, Key: api.Key{'k', byte('a' + i%12)}, Ver: 2 + i/12, Value: "w", Req: req(1, 1+i)}
		if e := s.Add(x); e != api.OK {
			t.Fatalf("%v: %d", x, e)
		}
	}
	settle(t, s, 12+committed)
	return s
}

// spoiler is something that keeps a record from standing behind crowded ones, and its error.
type spoiler struct {
	name  string
	errno api.Errno
	spoil func(x *api.Record)
}

// spoilers is all of them, in the chapter's order.
func spoilers() []spoiler {
	return []spoiler{
		{"index", api.ErrGap, func(x *api.Record) { x.Index++ }},
		{"epoch", api.ErrEpoch, func(x *api.Record) { x.Epoch = 4 }},
		{"value", api.ErrKey, func(x *api.Record) { x.Value = "" }},
		{"request", api.ErrArg, func(x *api.Record) { x.Req.Client = -1 }},
		{"stale", api.ErrStale, func(x *api.Record) { x.Req.Seq = 1 }},
		{"version", api.ErrGap, func(x *api.Record) { x.Ver += 7 }},
		{"thirteenth key", api.ErrFull, func(x *api.Record) { x.Key = key("new"); x.Ver -= 3 }},
	}
}

// P9.3, P9.9: of several errors the first one, whatever else is wrong; nothing has changed.
func TestAddFirstError(t *testing.T) {
	for _, behind := range []int{23, 24} {
		s := crowded(t, behind, 20)
		was := view(s)
		good, e := s.Next(5, api.Key{'k', byte('a' + behind%12)}, "w", req(1, 100))
		if e != api.OK {
			t.Fatal(e)
		}
		good.Ver = 2 + behind/12
		for set := range 1 << len(spoilers()) {
			x, want := good, api.OK
			if behind == 24 {
				want = api.ErrFull
			}
			if set>>6&1 == 1 {
				x.Ver = 4 // of the thirteenth key it becomes 1
			}
			for i := len(spoilers()) - 1; i >= 0; i-- {
				if set>>i&1 == 1 {
					spoilers()[i].spoil(&x)
					want = spoilers()[i].errno
				}
			}
			c := s.Clone()
			if e := c.Add(x); e != want {
				t.Fatalf("%d behind, %07b, %v: %d, not %d", behind, set, x, e, want)
			}
			if (view(c) == was) != (want != api.OK) {
				t.Fatalf("%d behind, %07b: what was refused changed something, or what was not did not", behind, set)
			}
		}
	}
}

// P9.3: each thing that is asked of a record, to its edge.
func TestAddEdges(t *testing.T) {
	base := crowded(t, 12, 3)
	good := api.Record{Index: 25, Epoch: 5, Key: key("kc"), Ver: 3, Value: "w", Req: req(1, 13)}
	for name, c := range map[string]struct {
		change func(x *api.Record)
		want   api.Errno
	}{
		"good":                     {func(x *api.Record) {}, api.OK},
		"the last index":           {func(x *api.Record) { x.Index = 24 }, api.ErrGap},
		"an index too far":         {func(x *api.Record) { x.Index = 26 }, api.ErrGap},
		"no index":                 {func(x *api.Record) { x.Index = 0 }, api.ErrGap},
		"an index below 0":         {func(x *api.Record) { x.Index = math.MinInt }, api.ErrGap},
		"a huge index":             {func(x *api.Record) { x.Index = math.MaxInt }, api.ErrGap},
		"the epoch before":         {func(x *api.Record) { x.Epoch = 4 }, api.ErrEpoch},
		"no epoch":                 {func(x *api.Record) { x.Epoch = 0 }, api.ErrEpoch},
		"an epoch below 0":         {func(x *api.Record) { x.Epoch = math.MinInt }, api.ErrEpoch},
		"a later epoch":            {func(x *api.Record) { x.Epoch = 6 }, api.OK},
		"the last epoch":           {func(x *api.Record) { x.Epoch = 1 << 40 }, api.OK},
		"an epoch above all":       {func(x *api.Record) { x.Epoch = 1<<40 + 1 }, api.ErrEpoch},
		"a huge epoch":             {func(x *api.Record) { x.Epoch = math.MaxInt }, api.ErrEpoch},
		"a client below 0":         {func(x *api.Record) { x.Req.Client = -1 }, api.ErrArg},
		"a client above 3":         {func(x *api.Record) { x.Req.Client = 4 }, api.ErrArg},
		"another client":           {func(x *api.Record) { x.Req = req(3, 1) }, api.OK},
		"request 0":                {func(x *api.Record) { x.Req = req(3, 0) }, api.ErrArg},
		"a request below 0":        {func(x *api.Record) { x.Req.Seq = -1 }, api.ErrArg},
		"the last request":         {func(x *api.Record) { x.Req.Seq = 1 << 40 }, api.OK},
		"a request above all":      {func(x *api.Record) { x.Req.Seq = 1<<40 + 1 }, api.ErrArg},
		"the client's last one":    {func(x *api.Record) { x.Req.Seq = 12 }, api.ErrStale},
		"a request of the table":   {func(x *api.Record) { x.Req = req(0, 12) }, api.ErrStale},
		"behind that of the table": {func(x *api.Record) { x.Req = req(0, 13) }, api.OK},
		"the last version":         {func(x *api.Record) { x.Ver = 2 }, api.ErrGap},
		"a version too far":        {func(x *api.Record) { x.Ver = 4 }, api.ErrGap},
		"no version":               {func(x *api.Record) { x.Ver = 0 }, api.ErrGap},
		"a huge version":           {func(x *api.Record) { x.Ver = math.MaxInt }, api.ErrGap},
		"a thirteenth key":         {func(x *api.Record) { x.Key, x.Ver = key("zz"), 1 }, api.ErrFull},
		"of a thirteenth key none": {func(x *api.Record) { x.Key, x.Ver = key("zz"), 2 }, api.ErrGap},
	} {
		s, x := base.Clone(), good
		c.change(&x)
		if e := s.Add(x); e != c.want {
			t.Errorf("%s: %d, not %d", name, e, c.want)
		}
		if l, _ := s.Behind(24, 9); (len(l) == 1 && l[0] == x) != (c.want == api.OK) {
			t.Errorf("%s: %v", name, l)
		}
	}
	for _, v := range values {
		x := good
		x.Value = v
		if e := base.Clone().Add(x); e != api.OK {
			t.Errorf("%q: %d", v, e)
		}
	}
	for _, v := range noValues {
		x := good
		x.Value = v
		if e := base.Clone().Add(x); e != api.ErrKey {
			t.Errorf("%q: %d", v, e)
		}
	}
	for _, k := range badKeys() {
		x := api.Record{Index: 1, Epoch: 1, Key: k, Ver: 1, Value: "x", Req: req(0, 1)}
		if e := shelf.New().Add(x); e != api.ErrKey {
			t.Errorf("%v: %d", k, e)
		}
	}
}

// P9.3: keys are counted in the table and behind it; one that is cut, or folded, counts as it should.
func TestTwelveKeys(t *testing.T) {
	s := shelf.New()
	for i := range 12 {
		add(t, s, 1, string(rune('a'+i)), "v", 0, 1+i)
		switch i {
		case 4:
			settle(t, s, 5)
			fold(t, s, 3)
		case 9:
			settle(t, s, 8)
		}
	}
	full := func(want api.Errno) {
		t.Helper()
		for _, k := range []string{"m", "aa", "\x01"} {
			if x, e := s.Next(1, key(k), "v", req(1, 1)); e != want || want != api.OK && x != (api.Record{}) {
				t.Errorf("%q: %v, %d", k, x, e)
			}
		}
	}
	full(api.ErrFull)
	add(t, s, 1, "a", "again", 2, 1)
	full(api.ErrFull)
	if s.Cut(11) != api.OK {
		t.Fatal("Cut")
	}
	full(api.OK)
	add(t, s, 1, "m", "v", 3, 1)
	settle(t, s, 12)
	fold(t, s, 12)
	if e := s.Add(api.Record{Index: 13, Epoch: 1, Key: key("l"), Ver: 1, Value: "v", Req: req(1, 1)}); e != api.ErrFull {
		t.Error(e)
	}
}

// P9.3, P9.10: twenty-four records behind the table, committed or not; Next does not ask for that room, but for eight that are not committed.
func TestRoom(t *testing.T) {
	for behind := range 25 {
		for committed := range behind + 1 {
			s := crowded(t, behind, committed)
			x, e := s.Next(5, key("ka"), "w", req(2, 1))
			want := api.OK
			if behind-committed >= 8 {
				want = api.ErrFull
			}
			if e != want || (x == api.Record{}) != (want != api.OK) {
				t.Fatalf("%d behind, %d committed: %v, %d", behind, committed, x, e)
			}
			want = api.OK
			if behind == 24 {
				want = api.ErrFull
			}
			x = api.Record{Index: 13 + behind, Epoch: 5, Key: key("ka"), Ver: s.Top(key("ka")).Ver + 1, Value: "w", Req: req(2, 1)}
			if e := s.Add(x); e != want {
				t.Fatalf("%d behind, %d committed: Add %d", behind, committed, e)
			}
		}
	}
	s := crowded(t, 24, 24)
	x, e := s.Next(5, key("ka"), "w", req(2, 1))
	if e != api.OK || s.Add(x) != api.ErrFull {
		t.Error(x, e)
	}
	fold(t, s, 13)
	if e := s.Add(x); e != api.OK {
		t.Error(e)
	}
}

// P9.3: Next's errors, the first one of several; ErrFull of eight is behind all.
func TestNextFirstError(t *testing.T) {
	for _, committed := range []int{4, 5} { // eight, and seven, are not
		s := crowded(t, 12, committed)
		was := view(s)
		for set := range 1 << len(spoilers()) {
			if set&1 == 1 || set>>5&1 == 1 {
				continue // Next sets these itself
			}
			x, want := api.Record{Epoch: 5, Key: key("kc"), Value: "w", Req: req(1, 100)}, api.OK
			if committed == 4 {
				want = api.ErrFull
			}
			for i := len(spoilers()) - 1; i >= 0; i-- {
				if set>>i&1 == 1 {
					spoilers()[i].spoil(&x)
					want = spoilers()[i].errno
				}
			}
			got, e := s.Next(x.Epoch, x.Key, x.Value, x.Req)
			x.Index, x.Ver = 25, 3
			if want != api.OK {
				x = api.Record{}
			}
			if e != want || got != x {
				t.Errorf("%d committed, %07b: %v, %d, not %v, %d", committed, set, got, e, x, want)
			}
		}
		if view(s) != was {
			t.Error("Next changed something")
		}
	}
}

// P9.3: up to the greatest index, epoch and request, and no more.
func TestGreatest(t *testing.T) {
	s, e := shelf.From(tall(1<<40-1, 1<<40-1))
	if e != api.OK {
		t.Fatal(e)
	}
	x := add(t, s, 1<<40, "a", "last", 0, 1<<40)
	if x.Index != 1<<40 || x.Ver != 1<<40 || s.Top(key("a")).Ver != 1<<40 {
		t.Error(x)
	}
	for _, epoch := range []int{0, 1 << 40, 1<<40 + 1} {
		if y, e := s.Next(epoch, key("b"), "more", req(1, 1)); y != (api.Record{}) || e != api.ErrGap {
			t.Error(y, e)
		}
	}
	x.Index, x.Ver, x.Req = 1<<40+1, 1<<40+1, req(1, 1)
	if e := s.Add(x); e != api.ErrGap {
		t.Error(e)
	}
	settle(t, s, 1<<40)
	fold(t, s, 1<<40)
	want := tall(1<<40, 1<<40)
	want.Cells[0].Value = "last"
	if !sameTable(s.Table(), want) || shelf.Check(s.Table()) != api.OK {
		t.Error(s.Table())
	}
}
