package tape_test

import (
	"bytes"
	"math"
	"slices"
	"testing"

	"towline/api"
	"towline/disk"
	"towline/tape"
	"towline/wire"
)

// maxBase is the longest base.
const maxBase = 1<<13 - 16

func newDisk(t *testing.T, room int) *disk.Disk {
	t.Helper()
	d, e := disk.New(room)
	if e != api.OK {
		t.Fatalf("a disk of %d: %d", room, e)
	}
	return d
}

// ok fails unless all are OK.
func ok(t *testing.T, l ...api.Errno) {
	t.Helper()
	for i, e := range l {
		if e != api.OK {
			t.Fatalf("call %d: %d", i, e)
		}
	}
}

func open(t *testing.T, d *disk.Disk) *tape.Tape {
	t.Helper()
	x, e := tape.Open(d)
	if x == nil || e != api.OK {
		t.Fatalf("Open: %d", e)
	}
	return x
}

func file(t *testing.T, d *disk.Disk, i int) []byte {
	t.Helper()
	b, e := d.Read(i)
	if e != api.OK {
		t.Fatalf("Read %d: %d", i, e)
	}
	return b
}

func sealed(t *testing.T, data []byte) []byte {
	t.Helper()
	b, e := wire.Seal(data)
	if e != api.OK {
		t.Fatalf("Seal of %d bytes: %d", len(data), e)
	}
	return b
}

// first is a reel's first record.
func first(t *testing.T, generation, many uint64, base string) []byte {
	t.Helper()
	return sealed(t, wire.PutBytes(wire.Put(nil, generation, many), []byte(base)))
}

// reel is a file: so it is laid by hand, as the chapter tells it.
func reel(t *testing.T, generation, many uint64, base string, l ...string) []byte {
	t.Helper()
	b := first(t, generation, many, base)
	for _, s := range l {
		b = append(b, sealed(t, []byte(s))...)
	}
	return b
}

func put(t *testing.T, x *tape.Tape, l ...string) {
	t.Helper()
	for _, s := range l {
		if e := x.Put([]byte(s)); e != api.OK {
			t.Fatalf("Put %q: %d", s, e)
		}
	}
}

func records(t *testing.T, x *tape.Tape) []string {
	t.Helper()
	var l []string
	for i := range x.Len() {
		b, there := x.At(i)
		if !there {
			t.Fatalf("record %d of %d is not there", i, x.Len())
		}
		l = append(l, string(b))
	}
	return l
}

// has holds a tape against a base, how many records are kept, and all records.
func has(t *testing.T, name string, x *tape.Tape, base string, kept int, l ...string) {
	t.Helper()
	if string(x.Base()) != base || x.Kept() != kept || !slices.Equal(records(t, x), l) {
		t.Errorf("%s: base %q, %d kept of %q; not %q, %d of %q", name, x.Base(), x.Kept(), records(t, x), base, kept, l)
	}
}

// lies holds the disk's two files against bytes.
func lies(t *testing.T, name string, d *disk.Disk, zero, one []byte) {
	t.Helper()
	for i, want := range [][]byte{zero, one} {
		if b := file(t, d, i); !bytes.Equal(b, want) {
			t.Errorf("%s: file %d is %v, not %v", name, i, b, want)
		}
	}
}

// P6.1 to P6.3: the chapter's example, and which bytes lie in the files.
func TestExample(t *testing.T) {
	d := newDisk(t, 1000)
	x := open(t, d)
	has(t, "empty", x, "", 0)
	lies(t, "empty", d, reel(t, 1, 0, ""), nil)
	put(t, x, "a")
	has(t, "put", x, "", 0, "a")
	ok(t, x.Sync())
	has(t, "synced", x, "", 1, "a")
	put(t, x, "b")
	has(t, "put", x, "", 1, "a", "b")
	lies(t, "put", d, reel(t, 1, 0, "", "a", "b"), nil)
	ok(t, d.Crash(), d.Start())
	x = open(t, d)
	has(t, "behind a crash", x, "", 1, "a")
	ok(t, x.Save([]byte("x")))
	has(t, "saved", x, "x", 0)
	lies(t, "saved", d, reel(t, 1, 0, "", "a"), reel(t, 2, 0, "x"))
}

// P6.1: the form of a file, byte by byte: numbers without a sign.
func TestForm(t *testing.T) {
	d := newDisk(t, 10000)
	x := open(t, d)
	for range 299 {
		ok(t, x.Save(nil))
	}
	ok(t, x.Save([]byte("bc"), []byte("d"), nil))
	// The generation is 301, two records were saved; each record has its count ahead, and its sum behind.
	head := []byte{6, 173, 2, 2, 2, 'b', 'c'}
	want := slices.Concat(sum(head), sum([]byte{1, 'd'}), sum([]byte{0}))
	if b := file(t, d, 0); !bytes.Equal(b, want) {
		t.Errorf("%v, not %v", b, want)
	}
	put(t, x, "e")
	if b := file(t, d, 0); !bytes.Equal(b, slices.Concat(want, sum([]byte{1, 'e'}))) {
		t.Errorf("a record behind it: %v", b)
	}
}

func sum(b []byte) []byte {
	s := wire.Sum(b)
	return append(b, byte(s>>24), byte(s>>16), byte(s>>8), byte(s))
}

// P6.1: which reel counts, and when it is saved as it is. Files are laid by hand.
func TestOpen(t *testing.T) {
	const top = 1 << 40
	long := string(bytes.Repeat([]byte("l"), maxBase))
	for _, c := range []struct {
		name      string
		zero, one []byte
		base      string
		l         []string
		saved     []byte // nil: the files are as they were
		file      int    // where it was saved
	}{
		{"nothing", nil, nil, "", nil, reel(t, 1, 0, ""), 0},
		{"nothing in one", reel(t, 1, 0, "b", "r"), nil, "b", []string{"r"}, nil, 0},
		{"nothing in zero", nil, reel(t, 1, 0, "b", "r"), "b", []string{"r"}, nil, 0},
		{"zero is newer", reel(t, 3, 1, "new", "r", "s"), reel(t, 2, 0, "old"), "new", []string{"r", "s"}, nil, 0},
		{"one is newer", reel(t, 2, 0, "old", "o"), reel(t, 3, 0, "new"), "new", nil, nil, 0},
		{"one is much newer", reel(t, 127, 0, "old", "o"), reel(t, 300, 0, "new"), "new", nil, nil, 0},
		{"both of one generation", reel(t, 5, 0, "zero", "z"), reel(t, 5, 1, "one", "o"), "zero", []string{"z"}, nil, 0},
		{"the greatest generation", reel(t, top-1, 0, "old"), reel(t, top, 0, "new", "n"), "new", []string{"n"}, nil, 0},
		{"a generation too great", reel(t, 4, 0, "old"), reel(t, top+1, 0, "new"), "old", nil, nil, 0},
		{"a generation of 2^64 - 1", reel(t, 4, 0, "old"), reel(t, math.MaxUint64, 0, "new"), "old", nil, nil, 0},
		{"generation 0", reel(t, 0, 0, "none", "n"), nil, "", nil, reel(t, 1, 0, ""), 0},
		{"as many records as it says", nil, reel(t, 2, 2, "b", "r", ""), "b", []string{"r", ""}, nil, 0},
		{"fewer than it says", reel(t, 1, 0, "old", "o"), reel(t, 2, 2, "new", "n"), "old", []string{"o"}, nil, 0},
		{"none, though it says one", reel(t, 2, 1, "new"), reel(t, 1, 0, "old", "o"), "old", []string{"o"}, nil, 0},
		{"2^40 records, it says", reel(t, 1, 0, "old"), reel(t, 2, top, "new", "n"), "old", nil, nil, 0},
		{"more than 2^40 records, it says", reel(t, 1, 0, "old"), reel(t, 2, top+1, "new", "n"), "old", nil, nil, 0},
		{"2^64 - 1 records, it says", reel(t, 1, 0, "old"), reel(t, 2, math.MaxUint64, "new", "n"), "old", nil, nil, 0},
		{"only such", reel(t, 2, 2, "b", "r"), reel(t, 3, 1, "c"), "", nil, reel(t, 1, 0, ""), 0},
		{"the longest base", nil, reel(t, 7, 0, long, "r"), long, []string{"r"}, nil, 0},
		{"a base too long", reel(t, 6, 0, "old"), reel(t, 7, 0, long+"l", "r"), "old", nil, nil, 0},
		{"torn in a record", reel(t, 3, 0, "old"), cut(reel(t, 4, 1, "new", "r", "s"), 1), "new", []string{"r"}, reel(t, 5, 1, "new", "r"), 0},
		{"torn in one of those it says", reel(t, 3, 0, "old"), cut(reel(t, 4, 2, "new", "r", "s"), 1), "old", nil, nil, 0},
		{"torn in its first record", reel(t, 3, 0, "old", "o"), cut(reel(t, 4, 0, "new"), 1), "old", []string{"o"}, nil, 0},
		{"torn, and elder", cut(reel(t, 3, 0, "old", "o"), 1), reel(t, 4, 0, "new"), "new", nil, nil, 0},
		{"a byte behind its records", append(reel(t, 8, 1, "b", "r"), 9), nil, "b", []string{"r"}, reel(t, 9, 1, "b", "r"), 1},
		{"many behind them", append(reel(t, 8, 0, "b", "r"), make([]byte, 99)...), reel(t, 7, 0, "old"), "b", []string{"r"}, reel(t, 9, 1, "b", "r"), 1},
		{"a record behind what is none", slices.Concat(reel(t, 8, 0, "b", "r"), []byte{0, 0, 0, 0, 0}, sealed(t, []byte("s"))), nil, "b", []string{"r"}, reel(t, 9, 1, "b", "r"), 1},
		{"bytes that are no record", []byte("what is it?"), []byte{1, 2, 3}, "", nil, reel(t, 1, 0, ""), 0},
		{"no record, and a reel", []byte("what is it?"), reel(t, 1, 0, "b"), "b", nil, nil, 0},
		{"a first record with more behind", sealed(t, append(wire.PutBytes(wire.Put(nil, 5, 0), []byte("b")), 0)), reel(t, 2, 0, "c"), "c", nil, nil, 0},
		{"a first record without a base", sealed(t, wire.Put(nil, 5, 0)), reel(t, 2, 0, "c"), "c", nil, nil, 0},
		{"a first record of nothing", sealed(t, nil), reel(t, 2, 0, "c"), "c", nil, nil, 0},
		{"a first record of another form", sealed(t, []byte{133, 0, 0, 0}), reel(t, 2, 0, "c"), "c", nil, nil, 0},
		{"a base that ends early", sealed(t, []byte{5, 0, 3, 'a', 'b'}), reel(t, 2, 0, "c"), "c", nil, nil, 0},
	} {
		d := newDisk(t, 1<<16)
		ok(t, d.Append(0, c.zero), d.Sync(0), d.Append(1, c.one), d.Sync(1))
		x := open(t, d)
		has(t, c.name, x, c.base, len(c.l), c.l...)
		want := [2][]byte{c.zero, c.one}
		if c.saved != nil {
			want[c.file] = c.saved
		}
		lies(t, c.name, d, want[0], want[1])
		ok(t, d.Crash(), d.Start())
		lies(t, c.name+", behind a crash", d, want[0], want[1])
		has(t, c.name+", once more", open(t, d), c.base, len(c.l), c.l...)
		lies(t, c.name+", once more", d, want[0], want[1])
	}
}

// cut is bytes without the last ones.
func cut(b []byte, n int) []byte { return b[:len(b)-n] }

// P6.1: a reel that is cut off at any byte counts as far as its records are whole, unless it then has fewer than it says.
func TestTorn(t *testing.T) {
	old := reel(t, 3, 0, "old", "o")
	head := len(reel(t, 4, 1, "new"))
	whole := reel(t, 4, 1, "new", "r", "st", "")
	ends := []int{head, len(reel(t, 4, 1, "new", "r")), len(reel(t, 4, 1, "new", "r", "st")), len(whole)}
	for n := range len(whole) + 1 {
		d := newDisk(t, 1000)
		ok(t, d.Append(1, old), d.Sync(1), d.Append(0, whole[:n]), d.Sync(0))
		x := open(t, d)
		many := 0
		for _, end := range ends[1:] {
			if n >= end {
				many++
			}
		}
		if many == 0 {
			has(t, "the elder one", x, "old", 1, "o")
			lies(t, "the elder one", d, whole[:n], old)
			continue
		}
		l := []string{"r", "st", ""}[:many]
		has(t, "torn", x, "new", many, l...)
		want := old
		if n > ends[many] {
			want = reel(t, 5, uint64(many), "new", l...)
		}
		lies(t, "torn", d, whole[:n], want)
	}
}

// P6.1: what Open answers when the disk can't be read, or the reel can't be saved.
func TestOpenErrors(t *testing.T) {
	down := newDisk(t, 100)
	ok(t, down.Crash())
	junk := newDisk(t, 100)
	ok(t, junk.Append(0, append(reel(t, 1<<40, 0, "b"), 7)), junk.Sync(0))
	exact := newDisk(t, len(reel(t, 1, 0, "")))
	open(t, exact)
	for _, c := range []struct {
		name string
		d    *disk.Disk
		err  api.Errno
	}{
		{"no disk", nil, api.ErrNil},
		{"one that New did not make", &disk.Disk{}, api.ErrNil},
		{"no power", down, api.ErrDown},
		{"no room", newDisk(t, len(reel(t, 1, 0, ""))-1), api.ErrFull},
		{"just room", exact, api.OK},
		{"no generation behind the greatest", junk, api.ErrRange},
	} {
		if x, e := tape.Open(c.d); e != c.err || (x == nil) != (e != api.OK) {
			t.Errorf("%s: %v, %d, not %d", c.name, x, e, c.err)
		}
	}
	lies(t, "no generation", junk, append(reel(t, 1<<40, 0, "b"), 7), nil)
}

// P6.1: a reel that need not be saved is opened without any act, so that no fuse burns.
func TestOpenDoesNotWrite(t *testing.T) {
	d := newDisk(t, 1000)
	ok(t, d.Append(1, reel(t, 2, 1, "b", "r")), d.Sync(1), d.Arm(1))
	has(t, "armed", open(t, d), "b", 1, "r")
	has(t, "armed", open(t, d), "b", 1, "r")
	ok(t, d.Arm(100))
	put(t, open(t, d), "s")
	ok(t, d.Arm(1))
	has(t, "put", open(t, d), "b", 2, "r", "s")
}

// P6.2: At has a place for each record, from 0 on.
func TestAt(t *testing.T) {
	x := open(t, newDisk(t, 1000))
	put(t, x, "a", "", "c")
	for i, want := range []string{"a", "", "c"} {
		if b, there := x.At(i); string(b) != want || !there {
			t.Error(i, b, there)
		}
	}
	for _, i := range []int{-1, 3, 4, math.MinInt, math.MaxInt} {
		if b, there := x.At(i); len(b) != 0 || there {
			t.Error(i, b, there)
		}
	}
	if b, there := open(t, newDisk(t, 100)).At(0); len(b) != 0 || there {
		t.Error(b, there)
	}
}

// P6.2: how long a record may be, and when the disk refuses it.
func TestPut(t *testing.T) {
	d := newDisk(t, 40000)
	x := open(t, d)
	var want []string
	for _, size := range []int{0, 1, 127, 128, api.MaxFrame - 1, api.MaxFrame} {
		want = append(want, string(bytes.Repeat([]byte{byte(size)}, size)))
		put(t, x, want[len(want)-1])
	}
	for _, size := range []int{api.MaxFrame + 1, 1 << 20} {
		if e := x.Put(make([]byte, size)); e != api.ErrLong {
			t.Errorf("%d bytes: %d", size, e)
		}
	}
	has(t, "put", x, "", 0, want...)
	lies(t, "put", d, reel(t, 1, 0, "", want...), nil)
	ok(t, x.Sync())
	has(t, "synced", x, "", len(want), want...)
	has(t, "opened", open(t, d), "", len(want), want...)
	filled := file(t, d, 0)
	ok(t, d.Append(7, make([]byte, 40000-len(filled)-5))) // room for an empty record, and no more
	if e := x.Put([]byte("x")); e != api.ErrFull {
		t.Error(e)
	}
	has(t, "refused", x, "", len(want), want...)
	lies(t, "refused", d, filled, nil)
	put(t, x, "")
	has(t, "just room", x, "", len(want), append(want, "")...)
}

// P6.2, P6.3: which error is told, if several apply, and that nothing has changed.
func TestErrorsInOrder(t *testing.T) {
	d := newDisk(t, 100)
	ok(t, d.Append(0, reel(t, 1<<40, 0, "b", "r")), d.Sync(0))
	x := open(t, d)
	put(t, x, "s")
	ok(t, d.Crash(9))
	long := make([]byte, api.MaxFrame+1)
	if e := x.Put(long); e != api.ErrLong {
		t.Error("Put, too long, without power:", e)
	}
	if e := x.Put([]byte("x")); e != api.ErrDown {
		t.Error("Put without power:", e)
	}
	if e := x.Sync(); e != api.ErrDown {
		t.Error("Sync without power:", e)
	}
	if e := x.Save(long, long); e != api.ErrRange {
		t.Error("Save behind the greatest generation, too long, without power:", e)
	}
	has(t, "refused", x, "b", 1, "r", "s")
	d = newDisk(t, 100)
	x = open(t, d)
	put(t, x, "s")
	ok(t, d.Crash())
	if x.Save(long) != api.ErrLong || x.Save(nil, nil, long) != api.ErrLong || x.Save(nil) != api.ErrDown {
		t.Error("Save without power")
	}
	has(t, "refused", x, "", 0, "s")
}

// P6.3: a Save takes the other file, turn by turn; its records are all kept.
func TestSave(t *testing.T) {
	d := newDisk(t, 1000)
	x := open(t, d)
	put(t, x, "r")
	ok(t, x.Save([]byte("one"), []byte("a"), nil, []byte("c")))
	has(t, "saved", x, "one", 3, "a", "", "c")
	lies(t, "saved", d, reel(t, 1, 0, "", "r"), reel(t, 2, 3, "one", "a", "", "c"))
	put(t, x, "d")
	has(t, "put", x, "one", 3, "a", "", "c", "d")
	lies(t, "put", d, reel(t, 1, 0, "", "r"), reel(t, 2, 3, "one", "a", "", "c", "d"))
	ok(t, x.Save([]byte("two")))
	has(t, "saved again", x, "two", 0)
	lies(t, "saved again", d, reel(t, 3, 0, "two"), reel(t, 2, 3, "one", "a", "", "c", "d"))
	ok(t, x.Save(nil, nil))
	has(t, "a third time", x, "", 1, "")
	ok(t, d.Crash(), d.Start())
	lies(t, "a third time", d, reel(t, 3, 0, "two"), reel(t, 4, 1, "", ""))
	has(t, "opened", open(t, d), "", 1, "")
}

// P6.3: how long a base and records may be.
func TestSaveSizes(t *testing.T) {
	d := newDisk(t, 1<<17)
	x := open(t, d)
	put(t, x, "r")
	long := make([]byte, api.MaxFrame+1)
	for _, c := range []struct {
		name string
		base []byte
		l    [][]byte
	}{
		{"a base of one byte more", long[:maxBase+1], nil},
		{"a base as long as a record", long[:api.MaxFrame], nil},
		{"a record of one byte more", nil, [][]byte{long}},
		{"the last one", []byte("x"), [][]byte{nil, []byte("a"), long}},
		{"both", long, [][]byte{long}},
	} {
		if e := x.Save(c.base, c.l...); e != api.ErrLong {
			t.Errorf("%s: %d", c.name, e)
		}
		has(t, c.name, x, "", 0, "r")
		lies(t, c.name, d, reel(t, 1, 0, "", "r"), nil)
	}
	ok(t, x.Save(long[:maxBase], long[:api.MaxFrame], nil, long[:api.MaxFrame]))
	has(t, "the longest", x, string(long[:maxBase]), 3, string(long[:api.MaxFrame]), "", string(long[:api.MaxFrame]))
	has(t, "opened", open(t, d), string(long[:maxBase]), 3, string(long[:api.MaxFrame]), "", string(long[:api.MaxFrame]))
}

// P6.3: the generation goes up to 2^40, and no further; a base may be the longest one there, too.
func TestGreatestGeneration(t *testing.T) {
	d := newDisk(t, 1<<16)
	ok(t, d.Append(1, reel(t, 1<<40-1, 0, "b", "r")), d.Sync(1))
	x := open(t, d)
	base := string(bytes.Repeat([]byte("l"), maxBase))
	ok(t, x.Save([]byte(base), []byte("a")))
	lies(t, "saved", d, reel(t, 1<<40, 1, base, "a"), reel(t, 1<<40-1, 0, "b", "r"))
	for range 2 {
		if e := x.Save(nil); e != api.ErrRange {
			t.Error(e)
		}
	}
	lies(t, "refused", d, reel(t, 1<<40, 1, base, "a"), reel(t, 1<<40-1, 0, "b", "r"))
	put(t, x, "c")
	ok(t, x.Sync())
	has(t, "put", x, base, 2, "a", "c")
	has(t, "opened", open(t, d), base, 2, "a", "c")
}

// P6.3: a Save that has no room leaves the tape as it was, on its file; the other one is cleared.
func TestSaveFull(t *testing.T) {
	d := newDisk(t, 60)
	x := open(t, d)
	put(t, x, "a")
	ok(t, x.Save([]byte("b"), []byte("c")))
	put(t, x, "d")
	ok(t, x.Sync())
	put(t, x, "e")
	if e := x.Save(make([]byte, 50)); e != api.ErrFull {
		t.Error(e)
	}
	has(t, "no room", x, "b", 2, "c", "d", "e")
	lies(t, "no room", d, nil, reel(t, 2, 1, "b", "c", "d", "e"))
	put(t, x, "f")
	ok(t, x.Sync())
	ok(t, d.Crash(), d.Start())
	has(t, "opened", open(t, d), "b", 4, "c", "d", "e", "f")
	ok(t, x.Save([]byte("g")))
	lies(t, "room", d, reel(t, 3, 0, "g"), reel(t, 2, 1, "b", "c", "d", "e", "f"))
}

// P6.3: the files 2 to 7 are none of a tape's.
func TestOtherFiles(t *testing.T) {
	d := newDisk(t, 1000)
	for i := 2; i < 8; i++ {
		ok(t, d.Append(i, reel(t, 9, 0, "not this one")))
	}
	x := open(t, d)
	put(t, x, "a")
	ok(t, x.Save([]byte("b")), x.Sync(), d.Crash(), d.Start())
	for i := 2; i < 8; i++ {
		if b := file(t, d, i); len(b) != 0 {
			t.Errorf("file %d was synced", i)
		}
	}
}

// The rule Objects: a tape that Open did not make.
func TestTapeThatOpenDidNotMake(t *testing.T) {
	long := make([]byte, api.MaxFrame+1)
	for _, x := range []*tape.Tape{nil, {}, new(tape.Tape)} {
		for range 2 {
			if x.Put(nil) != api.ErrNil || x.Put(long) != api.ErrNil || x.Sync() != api.ErrNil || x.Save(nil) != api.ErrNil || x.Save(long, long) != api.ErrNil {
				t.Error("Put, Sync, Save")
			}
			if len(x.Base()) != 0 || x.Len() != 0 || x.Kept() != 0 {
				t.Error("Base, Len, Kept")
			}
			if b, there := x.At(0); len(b) != 0 || there {
				t.Error("At", b, there)
			}
		}
	}
}

// Two tapes on two disks, one a clone, know nothing of one another.
func TestApart(t *testing.T) {
	d := newDisk(t, 1000)
	x := open(t, d)
	put(t, x, "a")
	ok(t, x.Sync())
	c := d.Clone()
	y := open(t, c)
	put(t, x, "b")
	put(t, y, "c")
	ok(t, y.Save([]byte("base"), []byte("d")), c.Crash())
	has(t, "one", x, "", 1, "a", "b")
	has(t, "the other", y, "base", 1, "d")
	put(t, x, "e")
	lies(t, "one", d, reel(t, 1, 0, "", "a", "b", "e"), nil)
}

// scribble writes all over a list, its spare room too.
func scribble(b []byte) {
	b = b[:cap(b)]
	for i := range b {
		b[i] = 33
	}
}

// The rule Memory: what is handed in is neither changed nor kept, and no two answers share.
func TestMemory(t *testing.T) {
	d := newDisk(t, 1000)
	x := open(t, d)
	room := bytes.Repeat([]byte{'r'}, 64)
	l := make([][]byte, 2, 4)
	l[0], l[1] = room[:2], room[:3]
	ok(t, x.Save(room[:4], l...), x.Put(room[:1]))
	if !bytes.Equal(room, bytes.Repeat([]byte{'r'}, 64)) || l[:4][2] != nil || l[:4][3] != nil {
		t.Error("an argument was written to")
	}
	scribble(room)
	l[0], l[1] = nil, nil
	has(t, "arguments changed", x, "rrrr", 2, "rr", "rrr", "r")
	base, again := x.Base(), x.Base()
	scribble(base)
	one, _ := x.At(1)
	two, _ := x.At(1)
	scribble(one)
	if string(again) != "rrrr" || string(two) != "rrr" {
		t.Error("two answers share")
	}
	has(t, "answers changed", x, "rrrr", 2, "rr", "rrr", "r")
	x = open(t, d)
	scribble(x.Base())
	for i := range x.Len() {
		b, _ := x.At(i)
		scribble(b)
	}
	has(t, "opened", x, "rrrr", 3, "rr", "rrr", "r")
	lies(t, "opened", d, reel(t, 1, 0, ""), reel(t, 2, 2, "rrrr", "rr", "rrr", "r"))
}
