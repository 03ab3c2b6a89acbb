package disk_test

import (
	"math"
	"math/rand/v2"
	"slices"
	"strings"
	"testing"

	"towline/api"
	"towline/disk"
)

// modelFile is a file by what was done to it since it lasted: each text is an Append, "#" a Clear.
type modelFile struct {
	lasts string
	since []string
}

// told is what the file is told to be, and whether it was cleared.
func (f modelFile) told() (string, bool) {
	at := -1
	for i, s := range f.since {
		if s == "#" {
			at = i
		}
	}
	behind := strings.Join(f.since[at+1:], "")
	if at >= 0 {
		return behind, true
	}
	return f.lasts + behind, false
}

// left is what a crash leaves of it.
func (f modelFile) left(k int) string {
	if k < 0 {
		return f.lasts
	}
	told, cleared := f.told()
	sure := f.lasts
	if cleared {
		sure = ""
	}
	for i, c := range []byte(told[len(sure):]) {
		if i < k {
			sure += string(c)
		}
	}
	return sure
}

type model struct {
	room  int
	down  bool
	files [8]modelFile
	fuse  int
	keep  []int
}

func (m *model) used() int {
	n := 0
	for _, f := range m.files {
		told, _ := f.told()
		n += len(told)
	}
	return n
}

func (m *model) crash(keep []int) api.Errno {
	if m.down {
		return api.ErrDown
	}
	m.down, m.fuse = true, 0
	for i := range m.files {
		k := -1
		if i < len(keep) {
			k = keep[i]
		}
		m.files[i] = modelFile{lasts: m.files[i].left(k)}
	}
	return api.OK
}

// burn does one byte of an act, and tells whether the power went.
func (m *model) burn() bool {
	if m.fuse > 0 {
		m.fuse--
		if m.fuse == 0 {
			m.crash(m.keep)
			return true
		}
	}
	return false
}

func (m *model) fails(i int) api.Errno {
	switch {
	case m.down:
		return api.ErrDown
	case i < 0 || i > 7:
		return api.ErrFile
	}
	return api.OK
}

func (m *model) add(i int, s string) api.Errno {
	if e := m.fails(i); e != api.OK {
		return e
	}
	if m.used()+len(s) > m.room {
		return api.ErrFull
	}
	for _, c := range []byte(s) { // byte by byte, so that the power may go behind each
		m.files[i].since = append(m.files[i].since, string(c))
		if m.burn() {
			return api.ErrDown
		}
	}
	return api.OK
}

func (m *model) clear(i int) api.Errno {
	if e := m.fails(i); e != api.OK {
		return e
	}
	m.files[i].since = append(m.files[i].since, "#")
	if m.burn() {
		return api.ErrDown
	}
	return api.OK
}

func (m *model) sync(i int) api.Errno {
	if e := m.fails(i); e != api.OK {
		return e
	}
	told, _ := m.files[i].told()
	m.files[i] = modelFile{lasts: told}
	if m.burn() {
		return api.ErrDown
	}
	return api.OK
}

func (m *model) arm(n int, keep []int) api.Errno {
	switch {
	case m.down:
		return api.ErrDown
	case n < 1:
		return api.ErrArg
	}
	m.fuse, m.keep = n, slices.Clone(keep)
	return api.OK
}

func (m *model) clone() *model {
	c := *m
	for i := range c.files {
		c.files[i].since = slices.Clone(c.files[i].since)
	}
	return &c
}

func randomKeep(r *rand.Rand) []int {
	keep := make([]int, r.IntN(10))
	for i := range keep {
		keep[i] = r.IntN(12) - 2
		if r.IntN(10) == 0 {
			keep[i] = math.MaxInt
		}
	}
	return keep
}

// randomAct does something by chance to both, and tells what they answer.
func randomAct(r *rand.Rand, d *disk.Disk, m *model) (got, want api.Errno) {
	i := r.IntN(3)
	if r.IntN(8) == 0 {
		i = r.IntN(11) - 1
	}
	switch kind := r.IntN(30); {
	case kind < 14:
		b := []byte("abcdefghijklmnopqrstuvwxyz")[r.IntN(26):]
		b = b[:r.IntN(min(len(b), 6)+1)]
		return d.Append(i, b), m.add(i, string(b))
	case kind < 19:
		return d.Sync(i), m.sync(i)
	case kind < 22:
		return d.Clear(i), m.clear(i)
	case kind < 24:
		keep := randomKeep(r)
		return d.Crash(keep...), m.crash(keep)
	case kind < 26:
		n, keep := r.IntN(12)-1, randomKeep(r)
		return d.Arm(n, keep...), m.arm(n, keep)
	default:
		m.down = false
		return d.Start(), api.OK
	}
}

// same holds a disk against its model, with and without power.
func same(t *testing.T, d *disk.Disk, m *model) {
	t.Helper()
	if d.Used() != m.used() {
		t.Fatalf("%d bytes are told, not %d", d.Used(), m.used())
	}
	for i := range m.files {
		b, e := d.Read(i)
		want, _ := m.files[i].told()
		if m.down {
			want = ""
		}
		if string(b) != want || e != m.fails(i) {
			t.Fatalf("file %d: %q, %d, not %q, %d", i, b, e, want, m.fails(i))
		}
	}
}

// P5.1 to P5.3, P5.7: whatever is done, a disk is what the model is, that does all byte by byte.
func TestModel(t *testing.T) {
	for seed := range uint64(60) {
		r := rand.New(rand.NewPCG(seed, 5))
		room := 10 + r.IntN(60)
		d, m := newDisk(t, room), &model{room: room}
		for step := range 400 {
			if r.IntN(40) == 0 { // go on with a clone, and let the one that was run wild
				old, other := d, m.clone()
				d = d.Clone()
				for range 6 {
					if got, want := randomAct(r, old, other); got != want {
						t.Fatalf("seed %d, step %d: %d, not %d", seed, step, got, want)
					}
				}
				same(t, old, other)
			}
			if got, want := randomAct(r, d, m); got != want {
				t.Fatalf("seed %d, step %d: %d, not %d", seed, step, got, want)
			}
			same(t, d, m)
		}
	}
}

// P5.4 to P5.6: behind any crash a file begins with what was synced, and not cleared since; and it is a beginning of what was told, or what lasted.
func TestWhatFollows(t *testing.T) {
	for seed := range uint64(300) {
		r := rand.New(rand.NewPCG(seed, 55))
		d := newDisk(t, 40)
		var told, synced [8]string // synced: and not cleared since
		var lasted [8]string
		for range r.IntN(30) {
			i := r.IntN(8)
			switch r.IntN(6) {
			case 0, 1, 2:
				b := []byte("uvwxyz")[r.IntN(6):]
				if e := d.Append(i, b); e == api.OK {
					told[i] += string(b)
				} else if e != api.ErrFull {
					t.Fatal(e)
				}
			case 3, 4:
				ok(t, d.Sync(i))
				synced[i], lasted[i] = told[i], told[i]
			case 5:
				ok(t, d.Clear(i))
				told[i], synced[i] = "", ""
			}
			if d.Used() > 40 {
				t.Fatal("more is told than there is room", d.Used())
			}
		}
		ok(t, d.Crash(randomKeep(r)...), d.Start())
		for i := range told {
			b, _ := d.Read(i)
			got := string(b)
			if !strings.HasPrefix(got, synced[i]) {
				t.Fatalf("%q was synced, %q is there", synced[i], got)
			}
			if got != lasted[i] && !strings.HasPrefix(told[i], got) {
				t.Fatalf("%q was told, %q lasted, %q is there", told[i], lasted[i], got)
			}
		}
	}
}

// The rule Ends: very many small acts on a large file are done in one go.
func TestMany(t *testing.T) {
	d := newDisk(t, api.MaxRoom)
	ok(t, d.Append(0, make([]byte, api.MaxRoom-1<<17)))
	for range 1 << 17 {
		ok(t, d.Append(0, []byte{1}), d.Sync(0))
	}
	if e := d.Append(0, []byte{1}); e != api.ErrFull || d.Used() != api.MaxRoom {
		t.Error(e, d.Used())
	}
	ok(t, d.Crash(), d.Start())
	if b, e := d.Read(0); len(b) != api.MaxRoom || e != api.OK {
		t.Error(len(b), e)
	}
}
