package store_test

import (
	"bytes"
	"fmt"
	"math"
	"slices"
	"testing"

	"towline/api"
	"towline/disk"
	"towline/proto"
	"towline/shelf"
	"towline/store"
)

// done does effects, which all can be.
func done(t *testing.T, s *store.Store, l ...api.Effect) {
	t.Helper()
	for i, f := range l {
		if e := s.Do(f); e != api.OK {
			t.Fatalf("effect %d: %d", i, e)
		}
	}
}

// P16.1, P16.2: the chapter's example.
func TestExample(t *testing.T) {
	d := newDisk(t, 1000)
	s := open(t, d)
	done(t, s, add(row(1)...), era(2))
	s = restart(t, d)
	if s.Era() != 2 || s.Shelf().Top(key("a")).Value != "v1" || s.Shelf().Commit() != 0 {
		t.Error(told(s))
	}
	if e := s.Do(era(2)); e != api.ErrEpoch {
		t.Error(e)
	}
}

// P16.1: a disk that has nothing, and disks that can't be opened.
func TestOpen(t *testing.T) {
	s := open(t, newDisk(t, 100))
	if told(s) != (state{shelf.New(), 0}).String() {
		t.Error(told(s))
	}
	down := newDisk(t, 100)
	down.Crash()
	burns := newDisk(t, 100)
	burns.Arm(3)
	for name, c := range map[string]struct {
		d *disk.Disk
		e api.Errno
	}{
		"nil": {nil, api.ErrNil}, "plain": {&disk.Disk{}, api.ErrNil}, "down": {down, api.ErrDown}, "burns": {burns, api.ErrDown}, "narrow": {newDisk(t, 7), api.ErrFull},
	} {
		if s, e := store.Open(c.d); s != nil || e != c.e {
			t.Errorf("%s: %v, %d", name, s, e)
		}
	}
}

// P16.1: bases.
func TestOpenBase(t *testing.T) {
	for _, x := range []api.Table{{}, table()} {
		for _, epoch := range []int{0, 1, 127, 128, top} {
			s := open(t, written(t, proto.PutTable(num(epoch), x)))
			from, _ := shelf.From(x)
			if told(s) != (state{from, epoch}).String() || s.Shelf().Commit() != x.Index {
				t.Errorf("%d, %v: %s", epoch, x, told(s))
			}
		}
	}
	right := proto.PutTable(num(5), table())
	wrong := [][]byte{
		num(5), num(0), num(5, 0), num(0, 0, 0, 0), append(bytes.Clone(right), 0), append(bytes.Clone(right), right...), right[1:],
		proto.PutTable(num(top+1), table()), proto.PutTable(num(math.MaxInt), table()), proto.PutTable(num(-1), table()),
		proto.PutTable([]byte{133, 0}, table()), proto.PutTable([]byte{128}, api.Table{}), bytes.Repeat([]byte{255}, 20),
		proto.PutTable(num(5), api.Table{Index: 1}), proto.PutTable(num(5), api.Table{Index: 1, Epoch: 1}), bytes.Repeat([]byte{0}, 6),
	}
	for i := 1; i < len(right); i++ {
		wrong = append(wrong, right[:i])
	}
	for _, b := range wrong {
		if s, e := store.Open(written(t, b)); s != nil || e != api.ErrStore {
			t.Errorf("%v: %v, %d", b, s, e)
		}
	}
}

// P16.1: notes, in their order; of those that can't be ErrStore.
func TestOpenNotes(t *testing.T) {
	l := row(30)
	behind := rec(8, 3, "a", 3, 0, 301) // behind the table
	from := proto.PutTable(num(5), table())
	for i, c := range []struct {
		base  []byte
		notes [][]byte
		era   int
		last  int // -1: ErrStore
	}{
		{nil, nil, 0, 0},
		{nil, [][]byte{noteOf(l[0])}, 0, 1},
		{nil, [][]byte{noteOf(l[0]), noteOf(l[1]), num(2, 1), num(3, 1), noteOf(l[1]), num(3, 300)}, 300, 2},
		{nil, [][]byte{num(2, 0)}, 0, 0},
		{nil, [][]byte{noteOf(l[0]), num(2, 1)}, 0, 1},
		{nil, [][]byte{noteOf(l[0]), num(2, 0)}, 0, 0},
		{nil, [][]byte{num(3, top)}, top, 0},
		{nil, [][]byte{num(3, 1), num(3, 2)}, 2, 0},
		{from, [][]byte{noteOf(behind), num(3, 6)}, 6, 8},
		{from, [][]byte{noteOf(behind), num(2, 7), num(2, 7)}, 5, 7},
		// What is no note.
		{nil, [][]byte{{}}, 0, -1},
		{nil, [][]byte{num(0)}, 0, -1},
		{nil, [][]byte{num(1)}, 0, -1},
		{nil, [][]byte{num(2)}, 0, -1},
		{nil, [][]byte{num(3)}, 0, -1},
		{nil, [][]byte{num(4, 1)}, 0, -1},
		{nil, [][]byte{num(0, 1)}, 0, -1},
		{nil, [][]byte{num(256+3, 1)}, 0, -1},
		{nil, [][]byte{{131, 0, 1}}, 0, -1},
		{nil, [][]byte{{3, 129, 0}}, 0, -1},
		{nil, [][]byte{{128}}, 0, -1},
		{nil, [][]byte{num(3, 1, 0)}, 0, -1},
		{nil, [][]byte{num(2, 0, 0)}, 0, -1},
		{nil, [][]byte{append(noteOf(l[0]), 0)}, 0, -1},
		{nil, [][]byte{noteOf(l[0])[:5]}, 0, -1},
		{nil, [][]byte{noteOf(l[0])[1:]}, 0, -1},
		{nil, [][]byte{bytes.Repeat([]byte{255}, 30)}, 0, -1},
		{nil, [][]byte{noteOf(l[0]), {9}, noteOf(l[1])}, 0, -1},
		// What is one, but can't be done.
		{nil, [][]byte{noteOf(l[1])}, 0, -1},
		{nil, [][]byte{noteOf(l[0]), noteOf(l[0])}, 0, -1},
		{nil, [][]byte{num(2, 1)}, 0, -1},
		{nil, [][]byte{num(2, math.MaxInt)}, 0, -1},
		{nil, [][]byte{num(2, -1)}, 0, -1},
		{nil, [][]byte{num(2, top+1)}, 0, -1},
		{nil, [][]byte{num(3, 0)}, 0, -1},
		{nil, [][]byte{num(3, 1), num(3, 1)}, 0, -1},
		{nil, [][]byte{num(3, 2), num(3, 1)}, 0, -1},
		{nil, [][]byte{num(3, top+1)}, 0, -1},
		{nil, [][]byte{num(3, -1)}, 0, -1},
		{from, [][]byte{num(3, 5)}, 0, -1},
		{from, [][]byte{num(2, 6)}, 0, -1}, // the table counts as committed
		{from, [][]byte{num(2, 8)}, 0, -1},
		{from, [][]byte{noteOf(l[0])}, 0, -1},
	} {
		s, e := store.Open(written(t, c.base, c.notes...))
		if c.last < 0 {
			if s != nil || e != api.ErrStore {
				t.Errorf("%d: %v, %d", i, s, e)
			}
			continue
		}
		if e != api.OK {
			t.Errorf("%d: %d", i, e)
			continue
		}
		if last, _ := s.Shelf().Last(); s.Era() != c.era || last != c.last || s.Shelf().Commit() != s.Shelf().Low() {
			t.Errorf("%d: %s", i, told(s))
		}
	}
	var full [][]byte
	for _, x := range l {
		full = append(full, noteOf(x))
	}
	if s := open(t, written(t, nil, full[:24]...)); s.Shelf().Dirty() != 24 {
		t.Error(told(s))
	}
	if s, e := store.Open(written(t, nil, full[:25]...)); s != nil || e != api.ErrStore {
		t.Error(s, e)
	}
}

// P16.2: what becomes of a store, and what lies on its disk then, effect by effect.
func TestDo(t *testing.T) {
	l := row(8)
	other := rec(3, 2, "b", 1, 1, 9)
	behind := rec(8, 3, "a", 3, 0, 301)
	for name, effects := range map[string][]api.Effect{
		"nothing":        {{Cut: -1}, {Cut: math.MinInt}},
		"records":        {add(l[0]), add(l[1], l[2])},
		"cut":            {add(l[:4]...), cut(2), cut(2), cut(0)},
		"cut and add":    {add(l[:4]...), {Cut: 2, Recs: []api.Record{other}}},
		"all noted":      {add(l[:4]...), {Cut: 2, Recs: []api.Record{other, rec(4, 2, "a", 3, 0, 7)}, Era: 300}},
		"eras":           {era(1), era(2), era(top)},
		"fold":           {add(l[:6]...), fold(2), fold(2), fold(6)},
		"fold at once":   {{Cut: -1, Recs: l[:6], Fold: 4, Era: 3}},
		"fold and cut":   {era(4), add(l[:6]...), {Cut: 3, Fold: 2}},
		"base":           {era(4), add(l[:6]...), base(table()), base(api.Table{})},
		"base and more":  {add(l[:6]...), {Base: true, Table: table(), Cut: 7, Recs: []api.Record{behind}, Era: 9}},
		"base and fold":  {{Base: true, Table: table(), Cut: -1, Recs: []api.Record{behind}, Fold: 8, Era: 9}, {Base: true, Table: table(), Cut: -1, Recs: []api.Record{behind}, Fold: 7}},
		"as many as can": {add(row(24)...), {Base: true, Cut: -1, Recs: row(24)}, {Cut: 23, Fold: 1}},
		"below a base":   {add(l[:6]...), fold(5), base(api.Table{}), add(l[0])},
		"others":         {{Cut: -1, Err: 5, Table: table(), Send: []api.Msg{{Kind: 1}}}, {Cut: -1, Recs: l[:1], Err: api.ErrNil}},
		"the zero one":   {add(l[:2]...), {}},
		"notes behind":   {add(l[:6]...), fold(5), add(l[6]), era(7), add(l[7]), cut(7)},
	} {
		d := newDisk(t, 1<<16)
		s, m := open(t, d), state{shelf.New(), 0}
		var notes []string
		begun := ""
		for i, f := range effects {
			next, _, e := m.do(f)
			if e != api.OK {
				t.Fatal(name, i, e)
			}
			m, notes = next, next.noted(f, notes)
			if saves(f) {
				begun = string(proto.PutTable(num(m.era), m.shelf.Table()))
			}
			if e := s.Do(f); e != api.OK || told(s) != m.String() {
				t.Fatalf("%s %d: %d, %s, not %s", name, i, e, told(s), m)
			}
			if b, n, kept := lies(t, d); b != begun || !slices.Equal(n, notes) || !kept {
				t.Fatalf("%s %d: %q, %q, %v; not %q, %q", name, i, b, n, kept, begun, notes)
			}
			if x := restart(t, d.Clone()); told(x) != m.String() {
				t.Fatalf("%s %d, opened: %s, not %s", name, i, told(x), m)
			}
		}
	}
}

// P16.2: an effect that stores nothing burns nothing, and asks no power.
func TestNothing(t *testing.T) {
	d := newDisk(t, 1000)
	s := open(t, d)
	d.Arm(1)
	done(t, s, api.Effect{Cut: -1})
	if e := s.Do(era(1)); e != api.ErrDown {
		t.Error(e)
	}
	done(t, s, api.Effect{Cut: -1})
	if e := s.Do(cut(0)); e != api.ErrDown {
		t.Error(e)
	}
	if e := s.Do(era(1)); e != api.ErrDown || s.Era() != 0 {
		t.Error(e)
	}
}

// P16.2, P16.5: of all faults that an effect has the first one is told, and nothing has changed.
func TestFirstError(t *testing.T) {
	l := row(8)
	wrong := l[6]
	wrong.Value = ""
	for faults := range 1 << 5 {
		d := newDisk(t, 1<<16)
		s := open(t, d)
		done(t, s, add(l[:6]...), fold(2), era(4))
		has := func(n int) bool { return faults&(1<<n) > 0 }
		f := api.Effect{Cut: 6, Recs: []api.Record{l[6]}, Fold: 7, Era: 5}
		want := api.OK
		set := func(n int, e api.Errno, change func()) {
			if has(n) {
				change()
				want = e
			}
		}
		// From the last one on: the first one counts.
		set(0, api.ErrEpoch, func() { f.Era = 4 })
		set(1, api.ErrGap, func() { f.Fold = 8 })
		set(2, api.ErrKey, func() { f.Recs[0] = wrong })
		set(3, api.ErrGap, func() { f.Cut = 1 })
		set(4, api.ErrStore, func() { f.Base, f.Table = true, api.Table{Index: 1} })
		was, on := told(s), d.Clone()
		if e := s.Do(f); e != want {
			t.Fatalf("%b: %d, not %d", faults, e, want)
		}
		if want == api.OK {
			continue
		}
		same(t, d, on)
		if told(s) != was || told(restart(t, d)) != was {
			t.Fatalf("%b: %s, not %s", faults, told(s), was)
		}
	}
}

// same checks that two disks have the same files.
func same(t *testing.T, a, b *disk.Disk) {
	t.Helper()
	for i := range api.MaxFiles {
		x, _ := a.Read(i)
		y, _ := b.Read(i)
		if !bytes.Equal(x, y) {
			t.Fatalf("file %d: %v, not %v", i, x, y)
		}
	}
}

// P16.2, P16.5: effects that can't be, one by one.
func TestRefused(t *testing.T) {
	l := row(30)
	late := rec(7, 1, "a", 7, 0, 6) // a request that was
	for name, c := range map[string]struct {
		f api.Effect
		e api.Errno
	}{
		"table":            {base(api.Table{Epoch: 1}), api.ErrStore},
		"cut below":        {cut(1), api.ErrGap},
		"cut nothing":      {api.Effect{}, api.ErrGap},
		"cut above":        {cut(7), api.ErrGap},
		"cut far above":    {cut(math.MaxInt), api.ErrGap},
		"gap":              {add(l[7]), api.ErrGap},
		"once more":        {add(l[6], l[6]), api.ErrGap},
		"the second":       {add(l[6], l[8]), api.ErrGap},
		"behind a cut":     {api.Effect{Cut: 5, Recs: l[6:7]}, api.ErrGap},
		"behind a base":    {api.Effect{Base: true, Table: table(), Cut: -1, Recs: l[6:7]}, api.ErrGap},
		"cut of a base":    {api.Effect{Base: true, Table: table(), Cut: 6}, api.ErrGap},
		"stale":            {add(late), api.ErrStale},
		"too many":         {add(l[6:]...), api.ErrFull},
		"fold below":       {fold(1), api.ErrGap},
		"fold below 0":     {fold(-1), api.ErrGap},
		"fold above":       {fold(7), api.ErrGap},
		"fold what is cut": {api.Effect{Cut: 5, Fold: 6}, api.ErrGap},
		"fold of a base":   {api.Effect{Base: true, Table: table(), Cut: -1, Fold: 6}, api.ErrGap},
		"era":              {era(4), api.ErrEpoch},
		"lesser era":       {era(3), api.ErrEpoch},
		"era below 0":      {era(-1), api.ErrEpoch},
		"least era":        {era(math.MinInt), api.ErrEpoch},
		"great era":        {era(top + 1), api.ErrEpoch},
		"greatest era":     {era(math.MaxInt), api.ErrEpoch},
		"era of a base":    {api.Effect{Base: true, Table: table(), Cut: -1, Era: 4}, api.ErrEpoch},
		"era of a fold":    {api.Effect{Cut: -1, Fold: 3, Era: 4}, api.ErrEpoch},
		"era of records":   {api.Effect{Cut: -1, Recs: l[6:7], Era: 4}, api.ErrEpoch},
	} {
		d := newDisk(t, 1<<16)
		s := open(t, d)
		done(t, s, add(l[:6]...), fold(2), era(4))
		was, on := told(s), d.Clone()
		if e := s.Do(c.f); e != c.e {
			t.Errorf("%s: %d, not %d", name, e, c.e)
		}
		same(t, d, on)
		if told(s) != was || told(restart(t, d)) != was {
			t.Errorf("%s: %s, not %s", name, told(s), was)
		}
		done(t, s, add(l[6]))
	}
}

// The rule Objects.
func TestObjects(t *testing.T) {
	for _, s := range []*store.Store{nil, {}} {
		if s.Shelf() != nil || s.Era() != 0 {
			t.Error("told")
		}
		for _, f := range []api.Effect{{}, {Cut: -1}, add(row(1)...), era(1), base(api.Table{Index: 1})} {
			if e := s.Do(f); e != api.ErrNil {
				t.Error(f, e)
			}
		}
	}
	if s := open(t, newDisk(t, 1000)); s.Shelf() == nil {
		t.Error("no shelf")
	}
}

// The rule Memory: a shelf that is told is one's own, an effect stays, and nothing of it is kept.
func TestMemory(t *testing.T) {
	d := newDisk(t, 1<<16)
	s := open(t, d)
	l := append(row(3), rec(55, 5, "z", 5, 1, 5))
	f := api.Effect{Cut: -1, Recs: l[:2:3]}
	done(t, s, f)
	if want := append(row(3), rec(55, 5, "z", 5, 1, 5)); !slices.Equal(l, want) {
		t.Error(l)
	}
	was := told(s)
	clear(l)
	x := s.Shelf()
	x.Settle(2)
	x.Fold(1)
	x.Cut(2)
	x.Add(row(3)[2])
	if told(s) != was {
		t.Error(told(s), was)
	}
	b := api.Effect{Base: true, Table: table(), Cut: -1}
	done(t, s, b)
	was = told(s)
	if fmt.Sprint(b.Table) != fmt.Sprint(table()) {
		t.Error(b.Table)
	}
	clear(b.Table.Cells)
	clear(b.Table.Done)
	if told(s) != was || told(restart(t, d)) != was {
		t.Error(told(s))
	}
}

// The rule From arguments alone: two stores know nothing of one another.
func TestApart(t *testing.T) {
	a, b := open(t, newDisk(t, 1000)), open(t, newDisk(t, 1000))
	done(t, a, add(row(2)...), era(3))
	if told(b) != (state{shelf.New(), 0}).String() {
		t.Error(told(b))
	}
}
