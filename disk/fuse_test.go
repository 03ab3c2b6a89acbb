package disk_test

import (
	"math"
	"testing"

	"towline/api"
	"towline/disk"
)

// half is a disk whose file 0 is "abcd" as it is told, "ab" as it lasts; file 1 is "ef", and lasts.
func half(t *testing.T) *disk.Disk {
	t.Helper()
	d := newDisk(t, 100)
	ok(t, d.Append(0, []byte("ab")), d.Sync(0), d.Append(0, []byte("cd")), d.Append(1, []byte("ef")), d.Sync(1))
	return d
}

// P5.3: where a fuse ends, and what is kept then.
func TestFuse(t *testing.T) {
	appends := func(d *disk.Disk) api.Errno { return d.Append(0, []byte("xyz")) }
	clears := func(d *disk.Disk) api.Errno { return d.Clear(0) }
	syncs := func(d *disk.Disk) api.Errno { return d.Sync(0) }
	other := func(d *disk.Disk) api.Errno { return d.Append(1, []byte("ghi")) }
	for _, c := range []struct {
		name  string
		n     int
		keep  []int
		does  func(d *disk.Disk) api.Errno
		err   api.Errno
		first string // file 0, behind it
		next  string // file 1
	}{
		{"within an Append", 1, nil, appends, api.ErrDown, "ab", "ef"},
		{"within an Append", 1, []int{9}, appends, api.ErrDown, "abcdx", "ef"},
		{"within an Append", 2, []int{9}, appends, api.ErrDown, "abcdxy", "ef"},
		{"within an Append", 2, []int{3}, appends, api.ErrDown, "abcdx", "ef"},
		{"within an Append", 2, []int{1}, appends, api.ErrDown, "abc", "ef"},
		{"within an Append", 2, []int{-1, 9}, appends, api.ErrDown, "ab", "ef"},
		{"at its last byte", 3, []int{9}, appends, api.ErrDown, "abcdxyz", "ef"},
		{"at its last byte", 3, nil, appends, api.ErrDown, "ab", "ef"},
		{"behind it", 4, []int{9}, appends, api.OK, "abcdxyz", "ef"},
		{"behind it", math.MaxInt, nil, appends, api.OK, "abcdxyz", "ef"},
		{"at a Clear", 1, nil, clears, api.ErrDown, "ab", "ef"},
		{"at a Clear", 1, []int{0}, clears, api.ErrDown, "", "ef"},
		{"at a Clear", 1, []int{9}, clears, api.ErrDown, "", "ef"},
		{"behind a Clear", 2, []int{9}, clears, api.OK, "", "ef"},
		{"at a Sync", 1, nil, syncs, api.ErrDown, "abcd", "ef"},
		{"at a Sync", 1, []int{0}, syncs, api.ErrDown, "abcd", "ef"},
		{"behind a Sync", 2, []int{0}, syncs, api.OK, "abcd", "ef"},
		{"in another file", 2, []int{1, 1}, other, api.ErrDown, "abc", "efg"},
		{"in another file", 2, []int{1}, other, api.ErrDown, "abc", "ef"},
	} {
		d := half(t)
		ok(t, d.Arm(c.n, c.keep...))
		if e := c.does(d); e != c.err {
			t.Errorf("%s, %d, %v: %d", c.name, c.n, c.keep, e)
		}
		if e := d.Sync(9); c.err == api.ErrDown && e != api.ErrDown {
			t.Errorf("%s, %d, %v: the power is on", c.name, c.n, c.keep)
		}
		ok(t, d.Start())
		has(t, c.name, d, 0, c.first)
		has(t, c.name, d, 1, c.next)
	}
}

// P5.3: what each act burns, one behind the other; what is refused, or only reads, burns nothing.
func TestBurns(t *testing.T) {
	d := newDisk(t, 20)
	ok(t, d.Arm(9, 9, 9))
	ok(t, d.Append(0, []byte("abc"))) // 6 left
	ok(t, d.Append(0, nil), d.Append(1, []byte{}))
	ok(t, d.Sync(0))  // 5
	ok(t, d.Clear(5)) // 4
	for range 20 {
		has(t, "reads", d, 0, "abc")
		if d.Append(0, make([]byte, 18)) != api.ErrFull || d.Append(8, []byte("x")) != api.ErrFile || d.Clear(-1) != api.ErrFile || d.Sync(8) != api.ErrFile {
			t.Fatal("refused")
		}
		if d.Arm(0) != api.ErrArg || d.Arm(-1, 5) != api.ErrArg || d.Arm(math.MinInt) != api.ErrArg {
			t.Fatal("a fuse of no bytes")
		}
		ok(t, d.Start())
		d.Used()
		d.Clone()
	}
	ok(t, d.Append(1, []byte("de"))) // 2
	ok(t, d.Sync(1))                 // 1
	ok(t, d.Append(1, nil))
	if e := d.Append(1, []byte("fg")); e != api.ErrDown {
		t.Fatal(e)
	}
	ok(t, d.Start())
	has(t, "burnt down", d, 0, "abc")
	has(t, "burnt down", d, 1, "def")
}

// P5.1, P5.3: an Append that has no room is refused whole, also where the fuse would end within it.
func TestFullAheadOfFuse(t *testing.T) {
	d := newDisk(t, 4)
	ok(t, d.Arm(2, 9))
	if e := d.Append(0, []byte("abcde")); e != api.ErrFull || d.Used() != 0 {
		t.Error(e, d.Used())
	}
	if e := d.Append(0, []byte("abcd")); e != api.ErrDown {
		t.Error(e)
	}
	ok(t, d.Start())
	has(t, "burnt down", d, 0, "ab")
}

// P5.3: a fuse is there once: one that has burnt down is gone, and so is one that a Crash or another one took the place of.
func TestFuseGone(t *testing.T) {
	d := half(t)
	ok(t, d.Arm(1, 9))
	if e := d.Sync(0); e != api.ErrDown {
		t.Error(e)
	}
	ok(t, d.Start(), d.Append(0, make([]byte, 30)), d.Sync(0))
	ok(t, d.Arm(1), d.Crash(), d.Start(), d.Append(0, make([]byte, 30)), d.Sync(0))
	d = half(t)
	ok(t, d.Arm(1), d.Arm(5, 1), d.Append(0, []byte("xyz")), d.Sync(1))
	if e := d.Append(0, []byte("w")); e != api.ErrDown {
		t.Error("the second fuse", e)
	}
	ok(t, d.Start())
	has(t, "the second fuse's", d, 0, "abc")
	d = half(t)
	ok(t, d.Arm(5, 9), d.Arm(1))
	if e := d.Append(0, []byte("x")); e != api.ErrDown {
		t.Error("the second fuse", e)
	}
	ok(t, d.Start())
	has(t, "the second fuse's", d, 0, "ab")
}

// P5.3: a refused Arm leaves the fuse that is there.
func TestArmRefused(t *testing.T) {
	d := half(t)
	ok(t, d.Arm(1, 9))
	if d.Arm(0) != api.ErrArg || d.Arm(-5, 1) != api.ErrArg {
		t.Error("a fuse of no bytes")
	}
	if e := d.Append(0, []byte("x")); e != api.ErrDown {
		t.Error(e)
	}
	ok(t, d.Start())
	has(t, "the fuse that was", d, 0, "abcdx")
}

// P5.3: a clone has the fuse, as far as it has burnt, and its own of it.
func TestFuseOfClone(t *testing.T) {
	d := half(t)
	ok(t, d.Arm(5, 9), d.Append(0, []byte("xyz")))
	c := d.Clone()
	ok(t, d.Sync(1))
	for name, x := range map[string]*disk.Disk{"clone": c.Clone(), "clone, too": c} {
		ok(t, x.Sync(1))
		if e := x.Append(0, []byte("w")); e != api.ErrDown {
			t.Error(name, e)
		}
		ok(t, x.Start())
		has(t, name, x, 0, "abcdxyzw")
	}
	if e := d.Append(0, []byte("v")); e != api.ErrDown {
		t.Error(e)
	}
	ok(t, d.Start())
	has(t, "itself", d, 0, "abcdxyzv")
}

// The rule Memory: a fuse keeps no list that was handed in, and shares none with a clone's.
func TestFuseMemory(t *testing.T) {
	d := half(t)
	keep := []int{1, 0, 7, 7}[:2]
	ok(t, d.Arm(3, keep...))
	c := d.Clone()
	for i := range keep {
		keep[i] = 9
	}
	ok(t, c.Arm(3, 9, 9))
	if e := d.Append(1, []byte("ghi")); e != api.ErrDown {
		t.Error(e)
	}
	ok(t, d.Start())
	has(t, "armed", d, 0, "abc")
	has(t, "armed", d, 1, "ef")
	if all := keep[:4]; all[2] != 7 || all[3] != 7 {
		t.Error("Arm wrote behind its argument", all)
	}
}

// P5.3: a fuse of every length along several acts: each act ahead of its end is done, that one as far as it lasts, none behind it.
func TestEveryByte(t *testing.T) {
	for n := 1; n < 20; n++ {
		d := newDisk(t, 100)
		ok(t, d.Arm(n, 100, 100))
		did := []api.Errno{d.Append(0, []byte("abc")), d.Sync(0), d.Append(1, []byte("defg")), d.Clear(0), d.Append(0, []byte("hi")), d.Sync(0)}
		want := []struct{ first, next string }{
			{"a", ""}, {"ab", ""}, {"abc", ""}, // an Append
			{"abc", ""}, // a Sync
			{"abc", "d"}, {"abc", "de"}, {"abc", "def"}, {"abc", "defg"},
			{"", "defg"}, // a Clear
			{"h", "defg"}, {"hi", "defg"}, {"hi", "defg"},
		}
		ends := []int{3, 4, 8, 9, 11, 12}
		for i, e := range did {
			if fine := ends[i] < n; fine != (e == api.OK) || !fine && e != api.ErrDown {
				t.Errorf("%d bytes, act %d: %d", n, i, e)
			}
		}
		at := want[min(n, len(want))-1]
		ok(t, d.Start())
		has(t, "the first", d, 0, at.first)
		has(t, "the next", d, 1, at.next)
	}
}
