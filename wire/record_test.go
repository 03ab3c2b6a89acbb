package wire_test

import (
	"bytes"
	"math"
	"math/rand/v2"
	"testing"

	"towline/api"
	"towline/wire"
)

// sizes is how long the records of the tests are: the edges of a count's bytes, and of a record.
var sizes = []int{0, 1, 2, 5, 127, 128, api.MaxFrame - 1, api.MaxFrame}

func sealed(t *testing.T, data []byte) []byte {
	t.Helper()
	b, e := wire.Seal(data)
	if e != api.OK {
		t.Fatalf("Seal of %d bytes: %d", len(data), e)
	}
	return b
}

// P1.3: a record is the count, the bytes, and the sum of both, the highest byte first.
func TestSeal(t *testing.T) {
	r := rand.New(rand.NewPCG(4, 4))
	for _, n := range sizes {
		data := randomBytes(r, n)
		want := wire.PutBytes(nil, data)
		s := wire.Sum(want)
		want = append(want, byte(s>>24), byte(s>>16), byte(s>>8), byte(s))
		if b := sealed(t, data); !bytes.Equal(b, want) {
			t.Errorf("of %d bytes: %v", n, b)
		}
	}
	for _, c := range []struct {
		data []byte
		want []byte
	}{
		{nil, []byte{0, 0x52, 0x7d, 0x53, 0x51}},
		{[]byte{}, []byte{0, 0x52, 0x7d, 0x53, 0x51}},
		{[]byte("abc"), []byte{3, 'a', 'b', 'c', 0x7c, 0x6a, 0x5e, 0x33}},
	} {
		if b := sealed(t, c.data); !bytes.Equal(b, c.want) {
			t.Errorf("of %v: %v", c.data, b)
		}
	}
	for _, n := range []int{api.MaxFrame + 1, 1 << 20} {
		if b, e := wire.Seal(make([]byte, n)); len(b) != 0 || e != api.ErrLong {
			t.Errorf("of %d bytes: %d bytes, %d", n, len(b), e)
		}
	}
}

// P1.3, P1.4: Open is what was sealed, whatever stands behind.
func TestOpen(t *testing.T) {
	r := rand.New(rand.NewPCG(5, 5))
	for _, n := range sizes {
		data := randomBytes(r, n)
		b := sealed(t, data)
		for _, behind := range [][]byte{nil, {0}, b} {
			got, size, e := wire.Open(append(bytes.Clone(b), behind...))
			if !bytes.Equal(got, data) || size != len(b) || e != api.OK {
				t.Errorf("of %d bytes: %d, %d", n, size, e)
			}
		}
	}
}

// P1.3: the errors of Open, in their order, with nothing beside them.
func TestOpenErrors(t *testing.T) {
	long := wire.PutBytes(nil, make([]byte, api.MaxFrame+1))
	s := wire.Sum(long)
	long = append(long, byte(s>>24), byte(s>>16), byte(s>>8), byte(s))
	for _, c := range []struct {
		name string
		b    []byte
		err  api.Errno
	}{
		{"nil", nil, api.ErrShort},
		{"nothing", []byte{}, api.ErrShort},
		{"a count that ends", []byte{128}, api.ErrShort},
		{"a count of another form", []byte{128, 0, 0, 0, 0, 0}, api.ErrForm},
		{"a count that is too great", run(9, 255, 2), api.ErrRange},
		{"the greatest count", wire.Put(nil, math.MaxUint64), api.ErrLong},
		{"one byte too many", long, api.ErrLong},
		{"too many, and too few there", wire.Put(nil, api.MaxFrame+1), api.ErrLong},
		{"too few", []byte{3, 1, 2}, api.ErrShort},
		{"no sum", []byte{0}, api.ErrShort},
		{"three bytes of a sum", []byte{0, 1, 2, 3}, api.ErrShort},
		{"another sum", []byte{0, 1, 2, 3, 4}, api.ErrSum},
	} {
		if data, size, e := wire.Open(c.b); len(data) != 0 || size != 0 || e != c.err {
			t.Errorf("%s: %v, %d, %d, not %d", c.name, data, size, e, c.err)
		}
	}
	// The sum has its highest byte first: the other way around it is another one.
	b := sealed(t, []byte("abc"))
	b[4], b[5], b[6], b[7] = b[7], b[6], b[5], b[4]
	if _, _, e := wire.Open(b); e != api.ErrSum {
		t.Error(e)
	}
}

// P1.3: All is all records, up to where one is none.
func TestAll(t *testing.T) {
	parts := [][]byte{[]byte("abc"), nil, run(api.MaxFrame, 9), []byte("d")}
	var b []byte
	ends := []int{0}
	for _, p := range parts {
		b = append(b, sealed(t, p)...)
		ends = append(ends, len(b))
	}
	check := func(name string, b []byte, many int) {
		t.Helper()
		l, n := wire.All(b)
		if len(l) != many || n != ends[many] {
			t.Fatalf("%s: %d records, %d bytes; not %d, %d", name, len(l), n, many, ends[many])
		}
		for i, data := range l {
			if !bytes.Equal(data, parts[i]) {
				t.Errorf("%s: record %d: %v", name, i, data)
			}
		}
	}
	check("all", b, len(parts))
	check("none", nil, 0)
	check("nothing", []byte{}, 0)
	check("noughts", make([]byte, 9), 0)
	for i, end := range ends {
		check("the first ones", b[:end], i)
		check("and no record", append(bytes.Clone(b[:end]), 0, 0, 0, 0, 0), i)
		if end > 0 {
			check("cut off", b[:end-1], i-1)
		}
	}
	turned := bytes.Clone(b)
	turned[ends[1]+1] ^= 1
	check("a record in the midst is none", turned, 1)
}

// The rule Ends: very many small records are gone through in one go.
func TestAllOfMany(t *testing.T) {
	b := bytes.Repeat(sealed(t, nil), api.MaxRoom/5)
	if l, n := wire.All(b); len(l) != api.MaxRoom/5 || n != len(b) {
		t.Error(len(l), n)
	}
}

// P1.6: a record of which one byte is another one is no record of as many bytes.
func TestTurned(t *testing.T) {
	r := rand.New(rand.NewPCG(6, 6))
	for _, n := range []int{0, 1, 2, 5, 20, 127, 128, 130} {
		b := sealed(t, randomBytes(r, n))
		for i := range b {
			for x := 1; x < 256; x++ {
				turned := bytes.Clone(b)
				turned[i] ^= byte(x)
				if _, size, e := wire.Open(turned); e == api.OK && size == len(b) {
					t.Fatalf("%v is a record as %v is", turned, b)
				}
			}
		}
	}
	b := sealed(t, randomBytes(r, api.MaxFrame))
	for i := 2; i < len(b); i += 101 {
		turned := bytes.Clone(b)
		turned[i] ^= 1 << (i % 8)
		if data, size, e := wire.Open(turned); len(data) != 0 || size != 0 || e != api.ErrSum {
			t.Fatalf("byte %d: %d, %d", i, size, e)
		}
	}
}

// P1.7: a record that is cut off is ErrShort.
func TestCut(t *testing.T) {
	r := rand.New(rand.NewPCG(7, 7))
	for _, n := range sizes {
		b := sealed(t, randomBytes(r, n))
		for cut := range b {
			if data, size, e := wire.Open(b[:cut:cut]); len(data) != 0 || size != 0 || e != api.ErrShort {
				t.Fatalf("%d of %d bytes: %d, %d", cut, len(b), size, e)
			}
		}
	}
}

// The rule Memory: no answer shares an argument, nor another list of it.
func TestRecordMemory(t *testing.T) {
	data := append(make([]byte, 0, 32), "abc"...)
	scribble(data[3:])
	b := sealed(t, data)
	if !bytes.Equal(data[:cap(data)], append([]byte("abc"), run(29, 33)...)) {
		t.Error("Seal wrote to its argument")
	}
	scribble(data)
	if got, _, e := wire.Open(b); e != api.OK || string(got) != "abc" {
		t.Error("Seal's answer shares its argument")
	}
	b = append(b, b...)
	whole := bytes.Clone(b)
	one, _, _ := wire.Open(b)
	l, _ := wire.All(b)
	scribble(one)
	scribble(l[0])
	if string(l[1]) != "abc" || !bytes.Equal(b, whole) {
		t.Error("an answer shares", l[1], b)
	}
	scribble(b)
	if string(l[1]) != "abc" {
		t.Error("All's answer shares its argument")
	}
}
