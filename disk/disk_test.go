package disk_test

import (
	"bytes"
	"math"
	"testing"

	"towline/api"
	"towline/disk"
)

func newDisk(t *testing.T, room int) *disk.Disk {
	t.Helper()
	d, e := disk.New(room)
	if d == nil || e != api.OK {
		t.Fatalf("New %d: %d", room, e)
	}
	return d
}

// ok fails unless all are OK.
func ok(t *testing.T, l ...api.Errno) {
	t.Helper()
	for i, e := range l {
		if e != api.OK {
			t.Fatalf("call %d: %d", i, e)
		}
	}
}

func has(t *testing.T, name string, d *disk.Disk, i int, want string) {
	t.Helper()
	if b, e := d.Read(i); string(b) != want || e != api.OK {
		t.Errorf("%s: file %d is %q, %d, not %q", name, i, b, e, want)
	}
}

// P5.1 to P5.3: the chapter's example.
func TestExample(t *testing.T) {
	d := newDisk(t, 100)
	ok(t, d.Append(0, []byte("ab")), d.Sync(0), d.Append(0, []byte("cd")), d.Crash(1), d.Start())
	has(t, "crash", d, 0, "abc")
	ok(t, d.Arm(1))
	if e := d.Append(0, []byte("xy")); e != api.ErrDown {
		t.Error(e)
	}
	ok(t, d.Start())
	has(t, "fuse", d, 0, "abc")
}

// P5.1: rooms.
func TestRooms(t *testing.T) {
	for _, room := range []int{0, -1, api.MaxRoom + 1, math.MinInt, math.MaxInt} {
		if d, e := disk.New(room); d != nil || e != api.ErrArg {
			t.Errorf("room %d: %v, %d", room, d, e)
		}
	}
	for _, room := range []int{1, 2, 1000, api.MaxRoom - 1, api.MaxRoom} {
		d := newDisk(t, room)
		for i := range api.MaxFiles {
			has(t, "new", d, i, "")
		}
		if e := d.Append(3, make([]byte, room+1)); e != api.ErrFull || d.Used() != 0 {
			t.Errorf("room %d, one byte more: %d, %d", room, e, d.Used())
		}
		if e := d.Append(3, make([]byte, room)); e != api.OK || d.Used() != room {
			t.Errorf("room %d, just that: %d, %d", room, e, d.Used())
		}
		if e := d.Append(4, []byte{1}); e != api.ErrFull || d.Used() != room {
			t.Errorf("room %d, full: %d, %d", room, e, d.Used())
		}
		ok(t, d.Append(3, nil), d.Append(4, []byte{}), d.Clear(3))
		if d.Used() != 0 || d.Append(4, make([]byte, room)) != api.OK {
			t.Errorf("room %d, cleared: %d", room, d.Used())
		}
	}
}

// P5.1, P5.6: the room is for all files together.
func TestFull(t *testing.T) {
	d := newDisk(t, 20)
	for i := range api.MaxFiles {
		ok(t, d.Append(i, []byte("xy")))
	}
	ok(t, d.Append(7, []byte("abcd")))
	if d.Used() != 20 {
		t.Error(d.Used())
	}
	for i := range api.MaxFiles {
		if e := d.Append(i, []byte{1}); e != api.ErrFull {
			t.Errorf("file %d: %d", i, e)
		}
	}
	ok(t, d.Sync(7), d.Clear(7))
	if e := d.Append(0, make([]byte, 7)); e != api.ErrFull || d.Used() != 14 {
		t.Error(e, d.Used())
	}
	ok(t, d.Append(0, []byte("123456")))
	has(t, "full", d, 0, "xy123456")
	has(t, "full", d, 1, "xy")
	has(t, "cleared", d, 7, "")
}

// P5.1: files 0 to 7, and no others.
func TestFiles(t *testing.T) {
	d := newDisk(t, 100)
	for _, i := range []int{0, 7} {
		ok(t, d.Append(i, []byte("a")), d.Clear(i), d.Append(i, []byte("b")), d.Sync(i))
		has(t, "there", d, i, "b")
	}
	for _, i := range []int{-1, 8, 9, math.MinInt, math.MaxInt} {
		for _, b := range [][]byte{nil, []byte("x"), make([]byte, 101)} {
			if e := d.Append(i, b); e != api.ErrFile {
				t.Errorf("Append %d: %d", i, e)
			}
		}
		if d.Clear(i) != api.ErrFile || d.Sync(i) != api.ErrFile {
			t.Errorf("Clear, Sync %d", i)
		}
		if b, e := d.Read(i); len(b) != 0 || e != api.ErrFile {
			t.Errorf("Read %d: %v, %d", i, b, e)
		}
	}
	if d.Used() != 2 {
		t.Error(d.Used())
	}
}

// P5.1: a file is what was appended to it since it was cleared.
func TestAppendClearSync(t *testing.T) {
	d := newDisk(t, 100)
	ok(t, d.Append(2, []byte("ab")), d.Append(2, nil), d.Append(2, []byte("c")))
	has(t, "appended", d, 2, "abc")
	ok(t, d.Sync(2), d.Append(2, []byte("d")))
	has(t, "behind a Sync", d, 2, "abcd")
	ok(t, d.Clear(2))
	has(t, "cleared", d, 2, "")
	ok(t, d.Append(2, []byte("xyz")))
	has(t, "appended again", d, 2, "xyz")
	if d.Used() != 3 {
		t.Error(d.Used())
	}
}

// P5.1 to P5.3: without power nothing can be done but Start, and ErrDown is ahead of the other errors.
func TestDown(t *testing.T) {
	d := newDisk(t, 9)
	ok(t, d.Append(0, []byte("abc")), d.Sync(0), d.Crash())
	for _, i := range []int{-1, 0, 7, 8} {
		for _, b := range [][]byte{nil, []byte("x"), make([]byte, 10)} {
			if e := d.Append(i, b); e != api.ErrDown {
				t.Errorf("Append %d: %d", i, e)
			}
		}
		if d.Clear(i) != api.ErrDown || d.Sync(i) != api.ErrDown {
			t.Errorf("Clear, Sync %d", i)
		}
		if b, e := d.Read(i); len(b) != 0 || e != api.ErrDown {
			t.Errorf("Read %d: %v, %d", i, b, e)
		}
	}
	for _, n := range []int{-1, 0, 1} {
		if e := d.Arm(n, 0); e != api.ErrDown {
			t.Errorf("Arm %d: %d", n, e)
		}
	}
	if d.Crash(0) != api.ErrDown || d.Crash() != api.ErrDown {
		t.Error("Crash")
	}
	if d.Used() != 3 {
		t.Error("bytes are told without power, too", d.Used())
	}
	ok(t, d.Start(), d.Start())
	has(t, "on again", d, 0, "abc")
	ok(t, d.Append(0, []byte("d")), d.Sync(0)) // what was asked for without power, a fuse too, has left nothing
	has(t, "on again", d, 0, "abcd")
}

// What is done to a file in the table of crashes.
func acts(t *testing.T, d *disk.Disk, i int, does string) {
	t.Helper()
	for _, c := range []byte(does) {
		switch c {
		case '!':
			ok(t, d.Sync(i))
		case '#':
			ok(t, d.Clear(i))
		default:
			ok(t, d.Append(i, []byte{c}))
		}
	}
}

// P5.2: what a crash leaves: letters are appended, ! is a Sync, # a Clear.
func TestCrash(t *testing.T) {
	for _, c := range []struct {
		does string
		keep int
		want string
	}{
		{"", 5, ""},
		{"abc", -1, ""}, {"abc", 0, ""}, {"abc", 2, "ab"}, {"abc", 3, "abc"}, {"abc", 4, "abc"}, // never synced
		{"ab!cd", -1, "ab"}, {"ab!cd", 0, "ab"}, {"ab!cd", 1, "abc"}, {"ab!cd", 2, "abcd"}, {"ab!cd", 3, "abcd"},
		{"ab!cd", math.MaxInt, "abcd"}, {"ab!cd", math.MinInt, "ab"}, {"ab!cd", -2, "ab"},
		{"ab!c!d", -1, "abc"}, {"ab!c!d", 0, "abc"}, {"ab!c!d", 1, "abcd"},
		{"ab!", 0, "ab"}, {"ab!", 7, "ab"},
		// A clear that was not synced: it is not there at all, or the file is empty but for what was told behind it.
		{"ab!#", -1, "ab"}, {"ab!#", 0, ""}, {"ab!#", 9, ""},
		{"ab!#xyz", -1, "ab"}, {"ab!#xyz", 0, ""}, {"ab!#xyz", 1, "x"}, {"ab!#xyz", 2, "xy"}, {"ab!#xyz", 3, "xyz"}, {"ab!#xyz", 4, "xyz"},
		{"ab!#xyz", math.MaxInt, "xyz"}, {"ab!#abc", 1, "a"}, {"ab!cd#x", -1, "ab"}, {"ab!cd#x", 1, "x"}, {"ab!#x#yz", 1, "y"},
		{"ab#xyz", -1, ""}, {"ab#xyz", 2, "xy"}, {"#xyz", 2, "xy"}, // cleared at all
		// One that was synced.
		{"ab!#!", -1, ""}, {"ab!#!x", -1, ""}, {"ab!#!x", 0, ""}, {"ab!#!x", 1, "x"}, {"ab!#xy!z", -1, "xy"}, {"ab!#xy!z", 0, "xy"}, {"ab!#xy!z", 1, "xyz"},
	} {
		d := newDisk(t, 100)
		ok(t, d.Append(0, []byte("first")), d.Append(2, []byte("last")), d.Sync(2))
		acts(t, d, 1, c.does)
		ok(t, d.Crash(2, c.keep))
		if d.Used() != len("fi")+len(c.want)+len("last") {
			t.Errorf("%s, %d: %d bytes are told", c.does, c.keep, d.Used())
		}
		ok(t, d.Start())
		has(t, c.does, d, 1, c.want)
		has(t, "its neighbour", d, 0, "fi")
		has(t, "its neighbour", d, 2, "last")
		// What is told then is what lasts.
		ok(t, d.Append(1, []byte("+-")), d.Crash(-1, 1), d.Start())
		has(t, c.does+", once more", d, 1, c.want+"+")
		ok(t, d.Append(1, []byte("+-")), d.Crash(), d.Start())
		has(t, c.does+", a third time", d, 1, c.want+"+")
	}
}

// P5.2: keep has a number for each file; it may have fewer, none, or more.
func TestCrashOfMany(t *testing.T) {
	for many := range 12 {
		d := newDisk(t, 100)
		var keep []int
		for i := range api.MaxFiles {
			ok(t, d.Append(i, []byte("S")), d.Sync(i), d.Append(i, []byte("0123456789")))
		}
		for i := range many {
			keep = append(keep, i)
		}
		ok(t, d.Crash(keep...), d.Start())
		for i := range api.MaxFiles {
			want := "S"
			if i < many {
				want += "0123456789"[:i]
			}
			has(t, "crash", d, i, want)
		}
	}
}

// P5.2: what lasted comes back behind a clear that was not synced, though others were told in its room.
func TestBackBehindFull(t *testing.T) {
	d := newDisk(t, 4)
	ok(t, d.Append(0, []byte("abcd")), d.Sync(0), d.Clear(0), d.Append(1, []byte("wxyz")), d.Sync(1), d.Crash(), d.Start())
	has(t, "it lasted", d, 0, "abcd")
	has(t, "it lasted", d, 1, "wxyz")
	if e := d.Append(2, []byte("x")); e != api.ErrFull || d.Used() != 8 {
		t.Error(e, d.Used())
	}
	ok(t, d.Clear(0), d.Clear(1), d.Append(2, []byte("x")))
	has(t, "cleared", d, 2, "x")
}

// The rule Objects: a disk that New did not make.
func TestDiskThatNewDidNotMake(t *testing.T) {
	for _, d := range []*disk.Disk{nil, {}, new(disk.Disk)} {
		for range 2 {
			for _, i := range []int{-1, 0, 7, 8} {
				if d.Append(i, []byte("x")) != api.ErrNil || d.Append(i, nil) != api.ErrNil || d.Clear(i) != api.ErrNil || d.Sync(i) != api.ErrNil {
					t.Error("Append, Clear, Sync", i)
				}
				if b, e := d.Read(i); len(b) != 0 || e != api.ErrNil {
					t.Error("Read", b, e)
				}
			}
			if d.Crash() != api.ErrNil || d.Crash(1) != api.ErrNil || d.Arm(1) != api.ErrNil || d.Arm(0) != api.ErrNil || d.Start() != api.ErrNil {
				t.Error("Crash, Arm, Start")
			}
			if d.Used() != 0 || d.Clone() != nil {
				t.Error("Used, Clone")
			}
		}
	}
}

// P5.3: a clone is the same: files as told and as they last, the power, the room.
func TestClone(t *testing.T) {
	d := newDisk(t, 10)
	ok(t, d.Append(0, []byte("ab")), d.Sync(0), d.Append(0, []byte("cd")), d.Append(7, []byte("ef")), d.Sync(7), d.Clear(7), d.Append(7, []byte("g")))
	c := d.Clone()
	if c.Used() != 5 || c.Append(1, make([]byte, 6)) != api.ErrFull {
		t.Error("its room", c.Used())
	}
	has(t, "clone", c, 0, "abcd")
	has(t, "clone", c, 7, "g")
	low, high := c.Clone(), c.Clone()
	ok(t, low.Crash())
	down := low.Clone()
	if e := down.Sync(0); e != api.ErrDown || down.Used() != 4 {
		t.Error("its power", e)
	}
	ok(t, low.Start(), high.Crash(1, 0, 0, 0, 0, 0, 0, 1), high.Start())
	has(t, "it lasted", low, 0, "ab")
	has(t, "it lasted", low, 7, "ef")
	has(t, "some of it was told", high, 0, "abc")
	has(t, "a clear was not synced", high, 7, "g")
	if e := down.Sync(0); e != api.ErrDown {
		t.Error("Start of one started another one", e)
	}
}

// P5.3: a disk and its clone know nothing of one another.
func TestClonesApart(t *testing.T) {
	for _, turned := range []bool{false, true} {
		for _, size := range []int{1, 5, 8, 100} { // some with spare room behind a file, some without
			a := newDisk(t, 1000)
			for range size {
				ok(t, a.Append(0, []byte("x")))
			}
			ok(t, a.Sync(0), a.Append(0, []byte("y")))
			b := a.Clone()
			if turned {
				a, b = b, a
			}
			whole := string(bytes.Repeat([]byte("x"), size))
			ok(t, a.Append(0, []byte("aa")), b.Append(0, []byte("bb")), a.Append(1, []byte("c")))
			has(t, "one", a, 0, whole+"yaa")
			has(t, "the other", b, 0, whole+"ybb")
			ok(t, a.Clear(0), a.Append(0, []byte("new")), a.Sync(0))
			has(t, "the other", b, 0, whole+"ybb")
			has(t, "the other", b, 1, "")
			ok(t, a.Arm(1), b.Append(2, []byte("long enough")), a.Crash())
			ok(t, b.Sync(2), b.Crash(2), b.Start())
			has(t, "the other", b, 0, whole+"yb")
			if b.Used() != size+2+len("long enough") || a.Used() != 3 {
				t.Error(a.Used(), b.Used())
			}
		}
	}
}

// scribble writes all over a list, its spare room too.
func scribble(b []byte) {
	b = b[:cap(b)]
	for i := range b {
		b[i] = 33
	}
}

// The rule Memory: what is handed in is neither changed nor kept, and no two answers share.
func TestMemory(t *testing.T) {
	d := newDisk(t, 1000)
	room := bytes.Repeat([]byte{'r'}, 64)
	for _, i := range []int{0, 1} {
		ok(t, d.Append(i, room[:4]), d.Sync(i), d.Append(i, room[:1]))
	}
	if !bytes.Equal(room, bytes.Repeat([]byte{'r'}, 64)) {
		t.Error("Append wrote to its argument")
	}
	scribble(room)
	has(t, "its argument changed", d, 0, "rrrrr")
	first, _ := d.Read(0)
	second, _ := d.Read(0)
	scribble(first)
	if string(second) != "rrrrr" {
		t.Error("two answers share")
	}
	has(t, "an answer changed", d, 0, "rrrrr")
	ok(t, d.Append(0, []byte("s")))
	scribble(second)
	has(t, "an answer changed", d, 0, "rrrrrs")
	keep := []int{1, 0, 9}
	ok(t, d.Crash(keep...), d.Start())
	has(t, "what lasted", d, 0, "rrrrr")
	has(t, "what lasted", d, 1, "rrrr")
	if keep[0] != 1 || keep[1] != 0 || keep[2] != 9 {
		t.Error("Crash wrote to its argument", keep)
	}
}
