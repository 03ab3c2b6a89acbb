package wire_test

import (
	"bytes"
	"hash/crc32"
	"math"
	"math/rand/v2"
	"slices"
	"testing"

	"towline/wire"
)

// numbers is the edges: around each power of two, the least and the greatest.
func numbers() []uint64 {
	l := []uint64{0, 300, math.MaxUint64}
	for i := range 64 {
		p := uint64(1) << i
		l = append(l, p-1, p, p+1)
	}
	slices.Sort(l)
	return l
}

// few is what random bytes are mostly made of: the bytes that decide where numbers end.
var few = []byte{0, 1, 2, 127, 128, 129, 130, 255}

func randomBytes(r *rand.Rand, n int) []byte {
	b := make([]byte, n)
	for i := range b {
		b[i] = byte(r.Uint32())
		if r.IntN(3) > 0 {
			b[i] = few[r.IntN(len(few))]
		}
	}
	return b
}

// P1.1: the chapter's example, and where numbers get one byte more.
func TestPutNumbers(t *testing.T) {
	for _, c := range []struct {
		n    uint64
		want []byte
	}{
		{0, []byte{0}},
		{1, []byte{1}},
		{127, []byte{127}},
		{128, []byte{128, 1}},
		{255, []byte{255, 1}},
		{300, []byte{172, 2}},
		{1<<14 - 1, []byte{255, 127}},
		{1 << 14, []byte{128, 128, 1}},
		{1<<63 - 1, []byte{255, 255, 255, 255, 255, 255, 255, 255, 127}},
		{1 << 63, []byte{128, 128, 128, 128, 128, 128, 128, 128, 128, 1}},
		{math.MaxUint64, []byte{255, 255, 255, 255, 255, 255, 255, 255, 255, 1}},
	} {
		if b := wire.Put(nil, c.n); !bytes.Equal(b, c.want) {
			t.Errorf("Put %d: %v, not %v", c.n, b, c.want)
		}
	}
	if b := wire.Put([]byte{9}, 0, 127, 128, 300); !bytes.Equal(b, []byte{9, 0, 127, 128, 1, 172, 2}) {
		t.Error(b)
	}
	if b := wire.Put(nil); len(b) != 0 {
		t.Error(b)
	}
	if b := wire.Put([]byte{128, 0}); !bytes.Equal(b, []byte{128, 0}) {
		t.Error(b)
	}
}

// P1.1: numbers with signs, bytes, and whether something is so.
func TestPutOthers(t *testing.T) {
	for _, c := range []struct {
		name      string
		got, want []byte
	}{
		{"ints", wire.PutInts([]byte{7}, 0, -1, 1, -2, 63, -64, 64), []byte{7, 0, 1, 2, 3, 126, 127, 128, 1}},
		{"least", wire.PutInts(nil, math.MinInt64), []byte{255, 255, 255, 255, 255, 255, 255, 255, 255, 1}},
		{"greatest", wire.PutInts(nil, math.MaxInt64), []byte{254, 255, 255, 255, 255, 255, 255, 255, 255, 1}},
		{"no ints", wire.PutInts([]byte{7}), []byte{7}},
		{"bytes", wire.PutBytes([]byte{7}, []byte{5, 6}), []byte{7, 2, 5, 6}},
		{"no bytes", wire.PutBytes([]byte{7}, []byte{}), []byte{7, 0}},
		{"nil bytes", wire.PutBytes(nil, nil), []byte{0}},
		{"many bytes", wire.PutBytes(nil, make([]byte, 200)), append([]byte{200, 1}, make([]byte, 200)...)},
		{"yes", wire.PutBool([]byte{7}, true), []byte{7, 1}},
		{"no", wire.PutBool([]byte{7}, false), []byte{7, 0}},
	} {
		if !bytes.Equal(c.got, c.want) {
			t.Errorf("%s: %v, not %v", c.name, c.got, c.want)
		}
	}
}

// P1.1, P1.4: Turn and Back turn one another around.
func TestTurn(t *testing.T) {
	for _, c := range []struct {
		n    int64
		want uint64
	}{
		{0, 0}, {-1, 1}, {1, 2}, {-2, 3}, {2, 4},
		{math.MaxInt64, math.MaxUint64 - 1}, {math.MinInt64, math.MaxUint64}, {math.MinInt64 + 1, math.MaxUint64 - 2},
	} {
		if got := wire.Turn(c.n); got != c.want {
			t.Errorf("Turn %d: %d, not %d", c.n, got, c.want)
		}
		if got := wire.Back(c.want); got != c.n {
			t.Errorf("Back %d: %d, not %d", c.want, got, c.n)
		}
	}
	for _, n := range numbers() {
		if got := wire.Turn(wire.Back(n)); got != n {
			t.Errorf("Turn of Back %d: %d", n, got)
		}
		if got := wire.Back(wire.Turn(int64(n))); got != int64(n) {
			t.Errorf("Back of Turn %d: %d", int64(n), got)
		}
	}
}

// P1.1: the sum is CRC-32C, as the library has it.
func TestSum(t *testing.T) {
	if s := wire.Sum([]byte("123456789")); s != 0xe3069283 {
		t.Errorf("%x", s)
	}
	if a, b := wire.Sum(nil), wire.Sum([]byte{}); a != 0 || b != 0 {
		t.Error(a, b)
	}
	table := crc32.MakeTable(crc32.Castagnoli)
	r := rand.New(rand.NewPCG(1, 1))
	for n := range 300 {
		b := randomBytes(r, n)
		if s := wire.Sum(b); s != crc32.Checksum(b, table) {
			t.Fatalf("Sum %v: %x", b, s)
		}
	}
}

// P1.8: a lesser number never has more bytes, and none has more than ten.
func TestShort(t *testing.T) {
	last := 1
	for _, n := range numbers() {
		size := len(wire.Put(nil, n))
		if size < last || size > 10 {
			t.Errorf("%d has %d bytes, a lesser one %d", n, size, last)
		}
		last = size
	}
}

// The rule Memory: neither what is handed in nor the room behind it changes, and no answer shares it.
func TestPutMemory(t *testing.T) {
	data := []byte{5, 6}
	for name, put := range map[string]func(b []byte) []byte{
		"Put":       func(b []byte) []byte { return wire.Put(b, 300, 1) },
		"Put none":  func(b []byte) []byte { return wire.Put(b) },
		"Ints":      func(b []byte) []byte { return wire.PutInts(b, -300) },
		"Ints none": func(b []byte) []byte { return wire.PutInts(b) },
		"Bytes":     func(b []byte) []byte { return wire.PutBytes(b, data) },
		"no Bytes":  func(b []byte) []byte { return wire.PutBytes(b, nil) },
		"itself":    func(b []byte) []byte { return wire.PutBytes(b, b) },
		"Bool":      func(b []byte) []byte { return wire.PutBool(b, true) },
	} {
		for _, n := range []int{0, 1, 4} {
			room := bytes.Repeat([]byte{77}, 64)
			first, second := put(room[:n]), put(room[:n])
			if bytes.ContainsFunc(room, func(r rune) bool { return r != 77 }) {
				t.Errorf("%s behind %d: the room was written to", name, n)
			}
			want := bytes.Clone(first)
			scribble(second)
			if !bytes.Equal(first, want) {
				t.Errorf("%s behind %d: two answers share", name, n)
			}
			scribble(first)
			if bytes.ContainsFunc(room, func(r rune) bool { return r != 77 }) {
				t.Errorf("%s behind %d: the answer shares its argument", name, n)
			}
		}
	}
	if !bytes.Equal(data, []byte{5, 6}) {
		t.Error("the data share an answer")
	}
}

// scribble writes all over a list, its spare room too.
func scribble(b []byte) {
	b = b[:cap(b)]
	for i := range b {
		b[i] = 33
	}
}
