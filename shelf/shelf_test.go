package shelf_test

import (
	"math"
	"slices"
	"strconv"
	"testing"

	"towline/api"
	"towline/shelf"
)

func req(client, seq int) api.Req { return api.Req{Client: client, Seq: seq} }

func zero(c api.Cell) bool { return c == api.Cell{} }

// add adds what Next tells.
func add(t *testing.T, s *shelf.Shelf, epoch int, name, value string, client, seq int) api.Record {
	t.Helper()
	x, e := s.Next(epoch, key(name), value, req(client, seq))
	if e != api.OK {
		t.Fatalf("Next %q: %d", name, e)
	}
	if e := s.Add(x); e != api.OK {
		t.Fatalf("Add %v: %d", x, e)
	}
	return x
}

func settle(t *testing.T, s *shelf.Shelf, index int) {
	t.Helper()
	if e := s.Settle(index); e != api.OK {
		t.Fatalf("Settle %d: %d", index, e)
	}
}

func fold(t *testing.T, s *shelf.Shelf, index int) {
	t.Helper()
	if e := s.Fold(index); e != api.OK {
		t.Fatalf("Fold %d: %d", index, e)
	}
}

// filled is one with a table up to 4, records up to 12, committed up to 7; epochs rise at 3, 6 and 11.
func filled(t *testing.T) *shelf.Shelf {
	t.Helper()
	s := shelf.New()
	for i := range 12 {
		index := i + 1
		epoch := 1
		for _, from := range []int{3, 6, 11} {
			if index >= from {
				epoch++
			}
		}
		add(t, s, epoch, []string{"b", "a", "c"}[i%3], "v"+strconv.Itoa(index), i%4, 10+i)
		if index == 7 {
			settle(t, s, 7)
		}
	}
	fold(t, s, 4)
	return s
}

// P9.2 to P9.5: the chapter's example.
func TestExample(t *testing.T) {
	s := shelf.New()
	x := add(t, s, 1, "a", "x", 0, 1)
	if x != (api.Record{Index: 1, Epoch: 1, Key: key("a"), Ver: 1, Value: "x", Req: req(0, 1)}) {
		t.Error(x)
	}
	if y, e := s.Next(1, key("a"), "y", req(0, 1)); y != (api.Record{}) || e != api.ErrStale {
		t.Error(y, e)
	}
	if !zero(s.Clean(key("a"))) {
		t.Error(s.Clean(key("a")))
	}
	settle(t, s, 1)
	if s.Clean(key("a")) != (api.Cell{Key: key("a"), Ver: 1, Value: "x"}) {
		t.Error(s.Clean(key("a")))
	}
}

// P9.2: an empty one.
func TestNew(t *testing.T) {
	s := shelf.New()
	if view(s) != view(&keep{}) {
		t.Error(view(s))
	}
	if epoch, known := s.Epoch(0); epoch != 0 || !known {
		t.Error(epoch, known)
	}
	if value, there := s.Of(key("a"), 0); value != "" || !there {
		t.Error(value, there)
	}
	if l, there := s.Behind(0, 9); len(l) != 0 || !there {
		t.Error(l, there)
	}
	if !sameTable(s.Whole(), api.Table{}) || s.Cut(0) != api.OK || s.Settle(0) != api.OK || s.Fold(0) != api.OK {
		t.Error(s.Whole())
	}
}

// P9.2, P9.5: what a shelf with a table, records and some committed tells.
func TestTold(t *testing.T) {
	s := filled(t)
	if index, epoch := s.Last(); index != 12 || epoch != 4 || s.Low() != 4 || s.Commit() != 7 || s.Dirty() != 5 {
		t.Error(index, epoch, s.Low(), s.Commit(), s.Dirty())
	}
	for index, want := range map[int]int{4: 2, 5: 2, 6: 3, 10: 3, 11: 4, 12: 4} {
		if epoch, known := s.Epoch(index); epoch != want || !known {
			t.Errorf("epoch %d: %d, %v", index, epoch, known)
		}
	}
	for _, index := range []int{math.MinInt, -1, 0, 3, 13, math.MaxInt} {
		if epoch, known := s.Epoch(index); epoch != 0 || known {
			t.Errorf("epoch %d: %d, %v", index, epoch, known)
		}
	}
	for _, c := range []struct {
		r         api.Req
		ver       int
		committed bool
	}{
		{req(0, 10), 1, true}, {req(1, 11), 1, true}, {req(2, 12), 1, true}, {req(3, 13), 2, true}, // of the table
		{req(0, 14), 2, true}, {req(2, 16), 3, true}, // the last one that is committed
		{req(3, 17), 3, false}, {req(3, 21), 4, false}, {req(2, 20), 4, false},
		{req(0, 9), 0, false}, {req(0, 11), 0, false}, {req(1, 10), 0, false}, {req(3, 22), 0, false},
		{req(0, 0), 0, false}, {req(-1, 10), 0, false}, {req(4, 10), 0, false}, {req(math.MaxInt, 10), 0, false}, {req(math.MinInt, math.MinInt), 0, false},
	} {
		if ver, committed := s.Known(c.r); ver != c.ver || committed != c.committed {
			t.Errorf("%v: %d, %v", c.r, ver, committed)
		}
	}
	fold(t, s, 7)
	if ver, committed := s.Known(req(3, 13)); ver != 2 || !committed {
		t.Error("the last one of a client is forgotten", ver, committed)
	}
	if ver, committed := s.Known(req(0, 10)); ver != 0 || committed {
		t.Error("below the table, and not the last one of its client", ver, committed)
	}
	if ver, committed := shelf.New().Known(req(0, 0)); ver != 0 || committed {
		t.Error("a client that is not done", ver, committed)
	}
}

// P9.5: cells, and values by their versions.
func TestCells(t *testing.T) {
	s := filled(t) // b: 1 4 | 7 10; a: 2 | 5 8 11; c: 3 | 6 9 12
	for _, c := range []struct {
		name       string
		clean, top api.Cell
	}{
		{"b", api.Cell{Key: key("b"), Ver: 3, Value: "v7"}, api.Cell{Key: key("b"), Ver: 4, Value: "v10"}},
		{"a", api.Cell{Key: key("a"), Ver: 2, Value: "v5"}, api.Cell{Key: key("a"), Ver: 4, Value: "v11"}},
		{"c", api.Cell{Key: key("c"), Ver: 2, Value: "v6"}, api.Cell{Key: key("c"), Ver: 4, Value: "v12"}},
		{"d", api.Cell{}, api.Cell{}},
		{"", api.Cell{}, api.Cell{}},
		{"\x00a", api.Cell{}, api.Cell{}},
	} {
		if s.Clean(key(c.name)) != c.clean || s.Top(key(c.name)) != c.top {
			t.Errorf("%q: %v, %v", c.name, s.Clean(key(c.name)), s.Top(key(c.name)))
		}
	}
	add(t, s, 4, "d", "new", 0, 99)
	for _, c := range []struct {
		name  string
		ver   int
		value string
		there bool
	}{
		{"b", 2, "v4", true}, {"b", 3, "v7", true}, {"b", 4, "v10", true}, {"a", 1, "v2", true}, {"c", 4, "v12", true},
		{"b", 1, "", false}, {"b", 0, "", false}, {"b", 5, "", false}, {"b", -1, "", false}, {"b", math.MaxInt, "", false}, {"b", math.MinInt, "", false},
		{"d", 0, "", true}, {"d", 1, "new", true}, {"d", 2, "", false}, {"d", -1, "", false},
		{"e", 0, "", true}, {"e", 1, "", false}, {"e", -1, "", false},
	} {
		if value, there := s.Of(key(c.name), c.ver); value != c.value || there != c.there {
			t.Errorf("%s, %d: %q, %v", c.name, c.ver, value, there)
		}
	}
	settle(t, s, 13)
	fold(t, s, 13)
	if value, there := s.Of(key("d"), 0); value != "" || there {
		t.Error("the table has it now", value, there)
	}
}

// P9.4: records above an index, at most so many.
func TestBehind(t *testing.T) {
	s := filled(t)
	for index := -2; index < 16; index++ {
		for most := -2; most < 12; most++ {
			l, there := s.Behind(index, most)
			if there != (index >= 4 && index <= 12) {
				t.Errorf("%d, %d: %v", index, most, there)
			}
			want := 0
			if there {
				want = min(max(most, 0), 12-index)
			}
			if len(l) != want {
				t.Errorf("%d, %d: %v", index, most, l)
			}
			for i, x := range l {
				if x.Index != index+1+i || x.Value != "v"+strconv.Itoa(x.Index) {
					t.Errorf("%d, %d: %v", index, most, l)
				}
			}
		}
	}
	if l, there := s.Behind(4, math.MaxInt); len(l) != 8 || !there {
		t.Error(l, there)
	}
	if l, there := s.Behind(4, math.MinInt); len(l) != 0 || !there {
		t.Error(l, there)
	}
	if l, there := s.Behind(math.MaxInt, 1); len(l) != 0 || there {
		t.Error(l, there)
	}
	if l, there := s.Behind(math.MinInt, 1); len(l) != 0 || there {
		t.Error(l, there)
	}
}

// P9.4, P9.9: up to where one may cut, settle and fold; what is refused changes nothing.
func TestCutSettleFold(t *testing.T) {
	was := view(filled(t))
	for _, index := range []int{math.MinInt, -1, 0, 3, 4, 5, 6, 7, 8, 10, 12, 13, 1 << 40, math.MaxInt} {
		for name, c := range map[string]struct {
			do     func(s *shelf.Shelf) api.Errno
			lo, hi int
		}{
			"Cut":    {func(s *shelf.Shelf) api.Errno { return s.Cut(index) }, 7, 12},
			"Settle": {func(s *shelf.Shelf) api.Errno { return s.Settle(index) }, 7, 12},
			"Fold":   {func(s *shelf.Shelf) api.Errno { return s.Fold(index) }, 4, 7},
		} {
			s := filled(t)
			e := c.do(s)
			if index < c.lo || index > c.hi {
				if e != api.ErrGap || view(s) != was {
					t.Errorf("%s %d: %d", name, index, e)
				}
				continue
			}
			last, low, commit := 12, 4, 7
			switch name {
			case "Cut":
				last = index
			case "Settle":
				commit = index
			case "Fold":
				low = index
			}
			if got, _ := s.Last(); e != api.OK || got != last || s.Low() != low || s.Commit() != commit || s.Dirty() != last-commit {
				t.Errorf("%s %d: %d, %d, %d, %d", name, index, e, got, s.Low(), s.Commit())
			}
		}
	}
}

// P9.8: tables are what the records up to their index make.
func TestTableWhole(t *testing.T) {
	s := filled(t)
	low := api.Table{
		Index: 4, Epoch: 2,
		Cells: []api.Cell{{Key: key("a"), Ver: 1, Value: "v2"}, {Key: key("b"), Ver: 2, Value: "v4"}, {Key: key("c"), Ver: 1, Value: "v3"}},
		Done:  []api.Done{{Client: 0, Seq: 10, Ver: 1}, {Client: 1, Seq: 11, Ver: 1}, {Client: 2, Seq: 12, Ver: 1}, {Client: 3, Seq: 13, Ver: 2}},
	}
	whole := api.Table{
		Index: 7, Epoch: 3,
		Cells: []api.Cell{{Key: key("a"), Ver: 2, Value: "v5"}, {Key: key("b"), Ver: 3, Value: "v7"}, {Key: key("c"), Ver: 2, Value: "v6"}},
		Done:  []api.Done{{Client: 0, Seq: 14, Ver: 2}, {Client: 1, Seq: 15, Ver: 2}, {Client: 2, Seq: 16, Ver: 3}, {Client: 3, Seq: 13, Ver: 2}},
	}
	for range 20 { // not by the order of a map
		if !sameTable(s.Table(), low) || !sameTable(s.Whole(), whole) {
			t.Fatal(s.Table(), s.Whole())
		}
	}
	fold(t, s, 7)
	if !sameTable(s.Table(), whole) || !sameTable(s.Whole(), whole) {
		t.Error(s.Table(), s.Whole())
	}
}

// P9.5 and the rule Objects: a shelf that neither New nor From made.
func TestShelfThatNobodyMade(t *testing.T) {
	for _, s := range []*shelf.Shelf{nil, {}, new(shelf.Shelf)} {
		for _, k := range []api.Key{{}, key("a")} {
			if x, e := s.Next(1, k, "x", req(0, 1)); x != (api.Record{}) || e != api.ErrNil {
				t.Error("Next", x, e)
			}
			if e := s.Add(api.Record{Index: 1, Epoch: 1, Key: k, Ver: 1, Value: "x", Req: req(0, 1)}); e != api.ErrNil {
				t.Error("Add", e)
			}
			if value, there := s.Of(k, 0); value != "" || there || !zero(s.Clean(k)) || !zero(s.Top(k)) {
				t.Error("Of, Clean, Top", value, there)
			}
		}
		for _, index := range []int{-1, 0, 1, math.MaxInt} {
			if s.Cut(index) != api.ErrNil || s.Settle(index) != api.ErrNil || s.Fold(index) != api.ErrNil {
				t.Error("Cut, Settle, Fold")
			}
			epoch, known := s.Epoch(index)
			l, there := s.Behind(index, 1)
			if epoch != 0 || known || len(l) != 0 || there {
				t.Error("Epoch, Behind", epoch, known, l, there)
			}
		}
		index, epoch := s.Last()
		ver, committed := s.Known(req(0, 1))
		if index != 0 || epoch != 0 || s.Low() != 0 || s.Commit() != 0 || s.Dirty() != 0 || ver != 0 || committed {
			t.Error("Last, Low, Commit, Dirty, Known")
		}
		if !sameTable(s.Table(), api.Table{}) || !sameTable(s.Whole(), api.Table{}) || s.Clone() != nil {
			t.Error("Table, Whole, Clone")
		}
	}
}

// P9.5: of a shelf and its clone neither knows what is done to the other one.
func TestClone(t *testing.T) {
	for _, turned := range []bool{false, true} {
		a := filled(t)
		b := a.Clone()
		if view(a) != view(b) {
			t.Fatal("a clone is another one")
		}
		if turned {
			a, b = b, a
		}
		was := view(b)
		for _, do := range []func(){
			func() { a.Cut(9) },
			func() { add(t, a, 9, "new", "new", 1, 50) },
			func() { settle(t, a, 10) },
			func() { fold(t, a, 9) },
			func() { add(t, a, 9, "a", "newer", 1, 51) },
			func() { settle(t, a, 11); fold(t, a, 11) },
		} {
			do()
			if view(b) != was {
				t.Fatal("a clone knows of it")
			}
		}
	}
}

// The rule Memory: no two answers share records, nor do they with the shelf.
func TestMemory(t *testing.T) {
	s := filled(t)
	was := view(s)
	first, _ := s.Behind(4, 3)
	second, _ := s.Behind(4, 99)
	kept := slices.Clone(second)
	first = first[:cap(first)]
	for i := range first {
		first[i] = api.Record{Index: 77}
	}
	if view(s) != was || !slices.Equal(second, kept) {
		t.Error("Behind shares")
	}
}
