package tape_test

import (
	"bytes"
	"math/rand/v2"
	"slices"
	"strconv"
	"testing"

	"towline/api"
	"towline/disk"
	"towline/tape"
)

// state is what a tape should have.
type state struct {
	base string
	l    []string
	kept int
}

// leaves tells whether a tape that was opened behind a crash has what was kept of a state, and behind that some that were put, from the next one on.
func (s state) leaves(base string, l []string) bool {
	return base == s.base && len(l) >= s.kept && len(l) <= len(s.l) && slices.Equal(l, s.l[:len(l)])
}

// again opens a disk behind a crash, and once more: both must be the same, with the same files.
func again(t *testing.T, d *disk.Disk) (base string, l []string) {
	t.Helper()
	x := open(t, d)
	base, l = string(x.Base()), records(t, x)
	if x.Kept() != x.Len() {
		t.Fatalf("%d of %d are kept", x.Kept(), x.Len())
	}
	zero, one := file(t, d, 0), file(t, d, 1)
	ok(t, d.Crash(), d.Start())
	has(t, "opened once more", open(t, d), base, len(l), l...)
	lies(t, "opened once more", d, zero, one)
	return base, l
}

// keeps is what crashes keep: nothing, a few bytes, all, and of one file alone.
func keeps() [][]int {
	l := [][]int{nil, {-1, -1}, {100, 100}, {100}, {-1, 100}, {100, 0}, {0, 100}}
	for k := range 12 {
		l = append(l, []int{k, k}, []int{2 * k, 100}, []int{-1, 3 * k})
	}
	return l
}

// worn is a disk whose tape has a base, two records that are kept, and one that was put; it lies on a file, with an elder reel in the other one.
func worn(t *testing.T, on int) (*disk.Disk, *tape.Tape, state) {
	t.Helper()
	d := newDisk(t, 1000)
	x := open(t, d)
	if on == 0 {
		ok(t, x.Save(nil))
	}
	put(t, x, "elder")
	ok(t, x.Save([]byte("base"), []byte("a")))
	put(t, x, "bb")
	ok(t, x.Sync())
	put(t, x, "ccc")
	return d, x, state{"base", []string{"a", "bb", "ccc"}, 2}
}

// P6.4, P6.5: the power goes at every byte of a Put and of a Sync.
func TestCrashInPutAndSync(t *testing.T) {
	for on := range 2 {
		for _, keep := range keeps() {
			for n := 1; n < 14; n++ {
				d, x, s := worn(t, on)
				ok(t, d.Arm(n, keep...))
				e := x.Put([]byte("dddd")) // nine bytes
				if want := n > 9; want != (e == api.OK) || !want && e != api.ErrDown {
					t.Fatalf("fuse %d, Put: %d", n, e)
				}
				if e == api.OK {
					has(t, "put", x, "base", 2, "a", "bb", "ccc", "dddd")
				} else {
					has(t, "not put", x, "base", 2, "a", "bb", "ccc")
				}
				s.l = append(s.l, "dddd") // it may be there, whole
				e = x.Sync()              // the tenth byte
				if want := n > 10; want != (e == api.OK) || !want && e != api.ErrDown {
					t.Fatalf("fuse %d, Sync: %d", n, e)
				}
				if n >= 10 {
					s.kept = 4
				}
				d.Crash(keep...)
				ok(t, d.Start())
				if base, l := again(t, d); !s.leaves(base, l) {
					t.Fatalf("file %d, fuse %d, keep %v: %q, %q", on, n, keep, base, l)
				}
			}
		}
	}
}

// P6.4 to P6.6: the power goes at every byte of a Save.
func TestCrashInSave(t *testing.T) {
	next := state{"new", []string{"x", "yy", ""}, 3}
	size := len(reel(t, 3, 3, "new", "x", "yy", ""))
	for on := range 2 {
		for _, keep := range keeps() {
			for n := 1; n < size+5; n++ {
				d, x, s := worn(t, on)
				ok(t, d.Arm(n, keep...))
				e := x.Save([]byte("new"), []byte("x"), []byte("yy"), nil)
				done := n > size+2 // a Clear, and a Sync behind all
				if done != (e == api.OK) || !done && e != api.ErrDown {
					t.Fatalf("fuse %d of %d: %d", n, size, e)
				}
				if done {
					has(t, "saved", x, "new", 3, "x", "yy", "")
				} else {
					has(t, "not saved", x, "base", 2, "a", "bb", "ccc")
				}
				d.Crash(keep...)
				ok(t, d.Start())
				base, l := again(t, d)
				if lasts := n >= size+2; lasts && !next.leaves(base, l) || !s.leaves(base, l) && !next.leaves(base, l) {
					t.Fatalf("file %d, fuse %d of %d, keep %v: %q, %q", on, n, size, keep, base, l)
				}
			}
		}
	}
}

// P6.6: a reel that was written whole, but not synced, may count behind a crash; then it lasts, whatever is put behind it.
func TestSavedWholeNotSynced(t *testing.T) {
	size := len(reel(t, 3, 1, "new", "x"))
	for on := range 2 {
		d, x, _ := worn(t, on)
		ok(t, d.Arm(size+1, 100, 100))
		if e := x.Save([]byte("new"), []byte("x")); e != api.ErrDown {
			t.Fatal(e)
		}
		ok(t, d.Start())
		y := open(t, d)
		has(t, "opened", y, "new", 1, "x")
		put(t, y, "z")
		ok(t, d.Crash(0, 0), d.Start())
		has(t, "behind one more crash", open(t, d), "new", 1, "x")
	}
}

// P6.1, P6.5, P6.6: the power goes at every byte of the Save in an Open, of an empty disk and of one with a torn reel.
func TestCrashInOpen(t *testing.T) {
	torn := append(reel(t, 7, 1, "base", "a", "b"), 1, 'x')
	for _, c := range []struct {
		zero []byte
		want state
	}{{nil, state{}}, {torn, state{"base", []string{"a", "b"}, 2}}} {
		for _, keep := range keeps() {
			for n := 1; n < 50; n++ {
				d := newDisk(t, 1000)
				ok(t, d.Append(0, c.zero), d.Sync(0), d.Arm(n, keep...))
				x, e := tape.Open(d)
				if e == api.OK {
					break
				}
				if x != nil || e != api.ErrDown {
					t.Fatal(n, x, e)
				}
				ok(t, d.Start())
				if base, l := again(t, d); !c.want.leaves(base, l) {
					t.Fatalf("fuse %d, keep %v: %q, %q", n, keep, base, l)
				}
			}
		}
	}
}

// tester is a tape, and what it should have.
type tester struct {
	d *disk.Disk
	x *tape.Tape
	state
	next *state // of a Save in which the power went
	many int
}

func (m *tester) text(r *rand.Rand) string {
	m.many++
	return strconv.Itoa(m.many) + string(bytes.Repeat([]byte("-"), r.IntN(9)))
}

// act does something by chance; false: the power is off then.
func (m *tester) act(t *testing.T, r *rand.Rand) bool {
	var e api.Errno
	switch kind := r.IntN(20); {
	case kind < 10:
		s := m.text(r)
		if e = m.x.Put([]byte(s)); e == api.OK || e == api.ErrDown {
			m.l = append(slices.Clip(m.l), s)
		}
	case kind < 14:
		if e = m.x.Sync(); e == api.OK {
			m.kept = len(m.l)
		}
	case kind < 17:
		s := state{base: m.text(r)}
		var l [][]byte
		for range r.IntN(4) {
			s.l = append(s.l, m.text(r))
			l = append(l, []byte(s.l[len(s.l)-1]))
		}
		s.kept = len(s.l)
		if e = m.x.Save([]byte(s.base), l...); e == api.OK {
			m.state = s
		} else if e == api.ErrDown {
			m.next = &s
		}
	case kind < 18:
		e = m.d.Arm(1+r.IntN(60), r.IntN(30)-2, r.IntN(30)-2)
	case kind < 19:
		return m.d.Crash(r.IntN(30)-2, r.IntN(30)-2) != api.OK
	}
	if e != api.OK && e != api.ErrDown {
		t.Fatal(e)
	}
	return e != api.ErrDown
}

// P6.2 to P6.6: whatever is done, and wherever the power goes.
func TestModel(t *testing.T) {
	for seed := range uint64(150) {
		r := rand.New(rand.NewPCG(seed, 6))
		m := &tester{d: newDisk(t, 1<<14)} // with room enough for any Save in an Open
		m.x = open(t, m.d)
		for range 200 {
			if m.act(t, r) {
				has(t, "runs", m.x, m.base, m.kept, m.l...)
				continue
			}
			ok(t, m.d.Start())
			base, l := again(t, m.d)
			if !m.leaves(base, l) && (m.next == nil || !m.next.leaves(base, l)) {
				t.Fatalf("seed %d: %q, %q; was %v, or %v", seed, base, l, m.state, m.next)
			}
			m.x = open(t, m.d)
			m.state, m.next = state{base, l, len(l)}, nil
		}
	}
}

// The rule Ends: very many records, each of them synced, on a large disk.
func TestMany(t *testing.T) {
	const many = 50000
	d := newDisk(t, api.MaxRoom)
	x := open(t, d)
	for i := range many {
		ok(t, x.Put([]byte(strconv.Itoa(i))), x.Sync())
	}
	ok(t, d.Crash(), d.Start())
	x = open(t, d)
	if b, there := x.At(many - 1); x.Len() != many || string(b) != strconv.Itoa(many-1) || !there {
		t.Error(x.Len(), b, there)
	}
}
