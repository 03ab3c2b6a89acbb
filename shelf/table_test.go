package shelf_test

import (
	"math"
	"reflect"
	"slices"
	"testing"

	"towline/api"
	"towline/shelf"
)

// table is one that may be: eleven records of three keys, by three clients.
func table() api.Table {
	return api.Table{
		Index: 11, Epoch: 4,
		Cells: []api.Cell{{Key: key("a"), Ver: 2, Value: "x"}, {Key: key("ab"), Ver: 8, Value: "y"}, {Key: key("é"), Ver: 1, Value: "z"}},
		Done:  []api.Done{{Client: 0, Seq: 9, Ver: 8}, {Client: 1, Seq: 1, Ver: 2}, {Client: 3, Seq: 70, Ver: 1}},
	}
}

// wide is a table of so many keys, one record each.
func wide(many int) api.Table {
	t := api.Table{Index: many, Epoch: 1, Done: []api.Done{{Client: 0, Seq: many, Ver: 1}}}
	for i := range many {
		t.Cells = append(t.Cells, api.Cell{Key: api.Key{'k', byte('a' + i)}, Ver: 1, Value: "v"})
	}
	return t
}

// tall is a table of one key, with so many records.
func tall(index, epoch int) api.Table {
	return api.Table{
		Index: index, Epoch: epoch,
		Cells: []api.Cell{{Key: key("a"), Ver: index, Value: "x"}},
		Done:  []api.Done{{Client: 0, Seq: index, Ver: index}},
	}
}

func sameTable(a, b api.Table) bool {
	return a.Index == b.Index && a.Epoch == b.Epoch && slices.Equal(a.Cells, b.Cells) && slices.Equal(a.Done, b.Done)
}

// mayBe checks that a table may be, and that a shelf of it has just it.
func mayBe(t *testing.T, name string, x api.Table) {
	t.Helper()
	if e := shelf.Check(x); e != api.OK {
		t.Errorf("%s: %d", name, e)
	}
	s, e := shelf.From(x)
	if e != api.OK || s == nil {
		t.Fatalf("%s: From: %d", name, e)
	}
	index, epoch := s.Last()
	if index != x.Index || epoch != x.Epoch || s.Low() != x.Index || s.Commit() != x.Index || s.Dirty() != 0 {
		t.Errorf("%s: %d, %d, %d, %d, %d", name, index, epoch, s.Low(), s.Commit(), s.Dirty())
	}
	if !sameTable(s.Table(), x) || !sameTable(s.Whole(), x) {
		t.Errorf("%s: %v, %v", name, s.Table(), s.Whole())
	}
	for _, c := range x.Cells {
		if s.Clean(c.Key) != c || s.Top(c.Key) != c {
			t.Errorf("%s: %v, %v", name, s.Clean(c.Key), s.Top(c.Key))
		}
	}
	for _, d := range x.Done {
		if ver, ok := s.Known(api.Req{Client: d.Client, Seq: d.Seq}); ver != d.Ver || !ok {
			t.Errorf("%s: %v: %d, %v", name, d, ver, ok)
		}
	}
}

// P9.1, P9.2: tables that may be, to their edges.
func TestTables(t *testing.T) {
	mayBe(t, "none", api.Table{})
	mayBe(t, "empty lists", api.Table{Cells: []api.Cell{}, Done: []api.Done{}})
	mayBe(t, "three keys", table())
	mayBe(t, "one record", tall(1, 1))
	mayBe(t, "twelve keys", wide(12))
	mayBe(t, "an epoch above the index", tall(3, 1<<40))
	mayBe(t, "the greatest index", tall(1<<40, 1<<40))
	x := table()
	x.Done = []api.Done{{Client: 0, Seq: 1, Ver: 11}, {Client: 1, Seq: 1 << 40, Ver: 11}, {Client: 2, Seq: 1, Ver: 1}, {Client: 3, Seq: 1, Ver: 1}}
	mayBe(t, "all clients", x)
	for _, v := range values {
		x := tall(1, 1)
		x.Cells[0].Value = v
		mayBe(t, "value "+v, x)
	}
}

// P9.1, P9.2: each thing that keeps a table from being one.
func TestTablesThatCantBe(t *testing.T) {
	for name, spoil := range map[string]func(x *api.Table){
		"an index below 0":            func(x *api.Table) { x.Index = -11 },
		"an index below 0, huge":      func(x *api.Table) { x.Index = math.MinInt },
		"no index":                    func(x *api.Table) { *x = api.Table{Epoch: 1} },
		"an index above all":          func(x *api.Table) { *x = tall(1<<40+1, 1) },
		"an epoch below 0":            func(x *api.Table) { x.Epoch = -1 },
		"no epoch":                    func(x *api.Table) { x.Epoch = 0 },
		"an epoch above all":          func(x *api.Table) { x.Epoch = 1<<40 + 1 },
		"an epoch above all, huge":    func(x *api.Table) { x.Epoch = math.MaxInt },
		"thirteen keys":               func(x *api.Table) { *x = wide(13) },
		"very many keys":              func(x *api.Table) { x.Cells = slices.Repeat(x.Cells, 10000) },
		"no cells":                    func(x *api.Table) { x.Cells = nil },
		"cells of no records":         func(x *api.Table) { *x = api.Table{Cells: []api.Cell{{Key: key("a")}}} },
		"a key twice":                 func(x *api.Table) { x.Cells[1].Key = key("a") },
		"keys that fall":              func(x *api.Table) { x.Cells[0].Key, x.Cells[1].Key = key("ab"), key("a") },
		"high bytes ahead of low":     func(x *api.Table) { x.Cells[0].Key, x.Cells[2].Key = key("é"), key("b") },
		"no value":                    func(x *api.Table) { x.Cells[2].Value = "" },
		"a version 0":                 func(x *api.Table) { x.Cells[0].Ver, x.Cells[1].Ver = 0, 10 },
		"a version below 0":           func(x *api.Table) { x.Cells[0].Ver, x.Cells[1].Ver = -1, 11 },
		"a version above the index":   func(x *api.Table) { x.Cells[0].Ver = 12 },
		"versions that wrap round":    func(x *api.Table) { x.Cells[0].Ver, x.Cells[1].Ver, x.Cells[2].Ver = math.MaxInt, math.MaxInt, 13 },
		"versions of fewer records":   func(x *api.Table) { x.Cells[1].Ver = 7 },
		"versions of more records":    func(x *api.Table) { x.Cells[1].Ver = 9 },
		"nobody done":                 func(x *api.Table) { x.Done = nil },
		"somebody done of no records": func(x *api.Table) { *x = api.Table{Done: []api.Done{{Client: 0, Seq: 1}}} },
		"a client below 0":            func(x *api.Table) { x.Done[0].Client = -1 },
		"a client above 3":            func(x *api.Table) { x.Done[2].Client = 4 },
		"a client twice":              func(x *api.Table) { x.Done[1].Client = 0 },
		"clients that fall":           func(x *api.Table) { x.Done[0].Client, x.Done[1].Client = 1, 0 },
		"five clients":                func(x *api.Table) { x.Done = slices.Repeat(x.Done[:1], 5) },
		"very many clients":           func(x *api.Table) { x.Done = slices.Repeat(x.Done, 10000) },
		"a request 0":                 func(x *api.Table) { x.Done[1].Seq = 0 },
		"a request below 0":           func(x *api.Table) { x.Done[1].Seq = math.MinInt },
		"a request above all":         func(x *api.Table) { x.Done[1].Seq = 1<<40 + 1 },
		"done at version 0":           func(x *api.Table) { x.Done[2].Ver = 0 },
		"done below version 0":        func(x *api.Table) { x.Done[2].Ver = -1 },
		"done above the index":        func(x *api.Table) { x.Done[2].Ver = 12 },
	} {
		x := table()
		spoil(&x)
		cantBe(t, name, x)
	}
	for at := range 3 {
		for _, k := range badKeys() {
			x := table()
			x.Cells[at].Key = k
			cantBe(t, "no key", x)
		}
		for _, v := range noValues {
			x := table()
			x.Cells[at].Value = v
			cantBe(t, "no value", x)
		}
	}
	// Alone, so that it is not its place among the others.
	for _, k := range badKeys() {
		x := tall(1, 1)
		x.Cells[0].Key = k
		cantBe(t, "no key alone", x)
	}
}

func cantBe(t *testing.T, name string, x api.Table) {
	t.Helper()
	if e := shelf.Check(x); e != api.ErrStore {
		t.Errorf("%s: %d", name, e)
	}
	if s, e := shelf.From(x); s != nil || e != api.ErrStore {
		t.Errorf("%s: From: %v, %d", name, s, e)
	}
}

// The rule Memory: a table that is handed in is neither changed nor kept, nor is one that is told.
func TestTableMemory(t *testing.T) {
	x := table()
	x.Cells = append(make([]api.Cell, 0, 20), x.Cells...)
	x.Done = append(make([]api.Done, 0, 20), x.Done...)
	shelf.Check(x)
	s, _ := shelf.From(x)
	add(t, s, 5, "b", "w", 2, 1)
	if !reflect.DeepEqual(x.Cells[:20], append(table().Cells, make([]api.Cell, 17)...)) || !reflect.DeepEqual(x.Done[:20], append(table().Done, make([]api.Done, 17)...)) {
		t.Error("an argument changed", x)
	}
	scribbleTable(x)
	settle(t, s, 12)
	was := view(s)
	for _, told := range []api.Table{s.Table(), s.Whole(), s.Clone().Table()} {
		scribbleTable(told)
		if view(s) != was {
			t.Error("a table is shared")
		}
	}
	if !sameTable(s.Table(), table()) {
		t.Error(s.Table())
	}
}

// scribbleTable writes all over a table's lists, their spare room too.
func scribbleTable(x api.Table) {
	cells, done := x.Cells[:cap(x.Cells)], x.Done[:cap(x.Done)]
	for i := range cells {
		cells[i] = api.Cell{Key: key("!"), Ver: 99, Value: "!"}
	}
	for i := range done {
		done[i] = api.Done{Client: 2, Seq: 99, Ver: 99}
	}
}
