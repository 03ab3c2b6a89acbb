package wire_test

import (
	"bytes"
	"math"
	"math/big"
	"math/rand/v2"
	"testing"

	"towline/api"
	"towline/wire"
)

// run is so many times a byte, and others behind them.
func run(n int, c byte, more ...byte) []byte {
	return append(bytes.Repeat([]byte{c}, n), more...)
}

// P1.2: numbers, and which error is told.
func TestNumber(t *testing.T) {
	for _, c := range []struct {
		b    []byte
		want uint64
		err  api.Errno
	}{
		{nil, 0, api.ErrShort},
		{[]byte{}, 0, api.ErrShort},
		{[]byte{0}, 0, api.OK},
		{[]byte{0, 0}, 0, api.OK},
		{[]byte{127}, 127, api.OK},
		{[]byte{128}, 0, api.ErrShort},
		{[]byte{128, 0}, 0, api.ErrForm},
		{[]byte{128, 1}, 128, api.OK},
		{[]byte{255, 128, 0, 5}, 0, api.ErrForm},
		{run(9, 255, 1), math.MaxUint64, api.OK},
		{run(9, 128, 1), 1 << 63, api.OK},
		{run(8, 255, 127), 1<<63 - 1, api.OK},
		{run(9, 128, 0), 0, api.ErrForm},
		{run(9, 255, 2), 0, api.ErrRange},
		{run(9, 128, 127), 0, api.ErrRange},
		{run(9, 255), 0, api.ErrShort},
		{run(10, 255), 0, api.ErrRange},        // the tenth byte is too great, ahead of the end
		{run(9, 255, 130, 0), 0, api.ErrRange}, // and ahead of a last byte 0
		{run(10, 128), 0, api.ErrShort},
		{run(10, 128, 0), 0, api.ErrForm},
		{run(9, 255, 129, 0), 0, api.ErrForm},
		{run(10, 128, 1), 0, api.ErrRange},
		{run(1000, 128), 0, api.ErrShort},
		{run(1000, 128, 1), 0, api.ErrRange},
		{run(1000, 128, 0), 0, api.ErrForm},
	} {
		r := wire.Read(c.b)
		n, e := r.Number(), r.Err()
		if n != c.want || e != c.err {
			t.Errorf("%v: %d, %d, not %d, %d", c.b, n, e, c.want, c.err)
		}
		if e != api.OK && r.Left() != len(c.b) {
			t.Errorf("%v: it did not stay: %d left", c.b, r.Left())
		}
	}
}

// slow is the number with which bytes begin, by numbers that have no bound.
func slow(b []byte) (*big.Int, int, api.Errno) {
	n, most := new(big.Int), new(big.Int).SetUint64(math.MaxUint64)
	for i, c := range b {
		part := big.NewInt(int64(c % 128))
		n.Add(n, part.Lsh(part, uint(7*i)))
		switch {
		case n.Cmp(most) > 0:
			return nil, 0, api.ErrRange
		case c == 0 && i > 0:
			return nil, 0, api.ErrForm
		case c < 128:
			return n, i + 1, api.OK
		}
	}
	return nil, 0, api.ErrShort
}

// P1.2, P1.5: all bytes of up to two, and many longer ones: they are read as they say, and put again are as they were.
func TestOneForm(t *testing.T) {
	var l [][]byte
	for a := range 256 {
		l = append(l, []byte{byte(a)})
		for b := range 256 {
			l = append(l, []byte{byte(a), byte(b)})
		}
	}
	r := rand.New(rand.NewPCG(2, 2))
	for range 20000 {
		l = append(l, randomBytes(r, r.IntN(14)))
	}
	for range 5000 { // long ones: mostly bytes that go on
		l = append(l, append(run(8, 128|byte(r.Uint32())), randomBytes(r, 4)...))
	}
	for _, b := range l {
		want, size, err := slow(b)
		x := wire.Read(b)
		n := x.Number()
		if x.Err() != err || x.Left() != len(b)-size {
			t.Fatalf("%v: %d, %d left; not %d, %d", b, x.Err(), x.Left(), err, len(b)-size)
		}
		if err != api.OK && n != 0 || err == api.OK && n != want.Uint64() {
			t.Fatalf("%v: %d, not %v", b, n, want)
		}
		if err == api.OK && !bytes.Equal(wire.Put(nil, n), b[:size]) {
			t.Fatalf("%v: put again it is %v", b[:size], wire.Put(nil, n))
		}
	}
}

// P1.5: bytes and bools, too, are read in one form alone.
func TestOneFormOfOthers(t *testing.T) {
	r := rand.New(rand.NewPCG(3, 3))
	for range 20000 {
		b := randomBytes(r, r.IntN(8))
		x := wire.Read(b)
		if data := x.Bytes(8); x.Err() == api.OK && !bytes.Equal(wire.PutBytes(nil, data), b[:len(b)-x.Left()]) {
			t.Fatalf("bytes: %v", b)
		}
		x = wire.Read(b)
		if yes := x.Bool(); x.Err() == api.OK && !bytes.Equal(wire.PutBool(nil, yes), b[:len(b)-x.Left()]) {
			t.Fatalf("bool: %v", b)
		}
		x = wire.Read(b)
		if n := x.Int(); x.Err() == api.OK && !bytes.Equal(wire.PutInts(nil, n), b[:len(b)-x.Left()]) {
			t.Fatalf("int: %v", b)
		}
	}
}

// P1.4: what is put is read as it was, whatever stands behind.
func TestThereAndBack(t *testing.T) {
	for _, behind := range [][]byte{nil, {0}, {128}, {255, 255}} {
		for _, n := range numbers() {
			b := wire.PutInts(wire.Put(nil, n), int(n))
			r := wire.Read(append(b, behind...))
			if x := r.Number(); x != n {
				t.Errorf("%d: %d", n, x)
			}
			if x := r.Int(); x != int(n) {
				t.Errorf("%d: %d", int(n), x)
			}
			if r.Left() != len(behind) || r.Err() != api.OK {
				t.Error(n, r.Left(), r.Err())
			}
		}
		for _, size := range []int{0, 1, 127, 128, 1000} {
			data := run(size, 200)
			r := wire.Read(append(wire.PutBool(wire.PutBytes(nil, data), size > 1), behind...))
			if x := r.Bytes(size); !bytes.Equal(x, data) {
				t.Errorf("%d bytes: %v", size, x)
			}
			if r.Bool() != (size > 1) || r.Left() != len(behind) || r.Err() != api.OK {
				t.Error(size, r.Left(), r.Err())
			}
		}
	}
}

// P1.2: Within takes what lies between both, and at most 2^62.
func TestWithin(t *testing.T) {
	const top = 1 << 62
	for _, c := range []struct {
		n      uint64
		lo, hi int
		want   int
		err    api.Errno
	}{
		{5, 5, 5, 5, api.OK},
		{5, 6, 9, 0, api.ErrRange},
		{5, 1, 4, 0, api.ErrRange},
		{5, 1, 5, 5, api.OK},
		{5, 5, 9, 5, api.OK},
		{5, 9, 1, 0, api.ErrRange},
		{0, 0, 0, 0, api.OK},
		{0, -3, 3, 0, api.OK},
		{0, -3, -1, 0, api.ErrRange},
		{math.MaxUint64, -1, -1, 0, api.ErrRange},
		{math.MaxUint64, math.MinInt64, math.MaxInt64, 0, api.ErrRange},
		{1 << 63, math.MinInt64, math.MaxInt64, 0, api.ErrRange},
		{top, 0, math.MaxInt64, top, api.OK},
		{top, 0, top, top, api.OK},
		{top, 0, top - 1, 0, api.ErrRange},
		{top + 1, 0, math.MaxInt64, 0, api.ErrRange},
		{top + 1, top + 1, top + 1, 0, api.ErrRange},
	} {
		b := wire.Put(nil, c.n)
		r := wire.Read(b)
		n, e := r.Within(c.lo, c.hi), r.Err()
		if n != c.want || e != c.err {
			t.Errorf("%d within %d and %d: %d, %d", c.n, c.lo, c.hi, n, e)
		}
		if e != api.OK && r.Left() != len(b) {
			t.Errorf("%d within %d and %d: it did not stay", c.n, c.lo, c.hi)
		}
	}
	for _, c := range []struct {
		b   []byte
		err api.Errno
	}{{nil, api.ErrShort}, {[]byte{133, 0}, api.ErrForm}, {run(10, 255), api.ErrRange}} {
		r := wire.Read(c.b)
		if n := r.Within(0, 9); n != 0 || r.Err() != c.err || r.Left() != len(c.b) {
			t.Errorf("%v: %d, %d", c.b, n, r.Err())
		}
	}
}

// P1.2: Int and Bool.
func TestIntAndBool(t *testing.T) {
	for _, n := range []int{0, 1, -1, 63, -64, math.MaxInt64, math.MinInt64} {
		r := wire.Read(wire.PutInts(nil, n))
		if x := r.Int(); x != n || r.End() != api.OK {
			t.Error(n, x, r.End())
		}
	}
	r := wire.Read(run(9, 255, 2))
	if n := r.Int(); n != 0 || r.Err() != api.ErrRange {
		t.Error(n, r.Err())
	}
	for _, c := range []struct {
		b    []byte
		want bool
		err  api.Errno
	}{
		{[]byte{0}, false, api.OK}, {[]byte{1}, true, api.OK}, {[]byte{2}, false, api.ErrRange}, {[]byte{129, 0}, false, api.ErrForm}, {nil, false, api.ErrShort},
	} {
		r := wire.Read(c.b)
		if yes := r.Bool(); yes != c.want || r.Err() != c.err {
			t.Errorf("%v: %v, %d", c.b, yes, r.Err())
		}
	}
}

// P1.2: Bytes: its errors, in their order, and where it stays.
func TestBytes(t *testing.T) {
	for _, c := range []struct {
		b    []byte
		most int
		want []byte
		err  api.Errno
	}{
		{[]byte{2, 5, 6}, 2, []byte{5, 6}, api.OK},
		{[]byte{2, 5, 6, 7}, math.MaxInt64, []byte{5, 6}, api.OK},
		{[]byte{2, 5, 6}, 1, nil, api.ErrLong},
		{[]byte{2, 5}, 2, nil, api.ErrShort},
		{[]byte{2, 5}, 1, nil, api.ErrLong}, // both apply: ErrLong is named first
		{[]byte{0}, 0, nil, api.OK},
		{[]byte{0}, -1, nil, api.OK},
		{[]byte{0}, math.MinInt64, nil, api.OK},
		{[]byte{1, 5}, 0, nil, api.ErrLong},
		{[]byte{1, 5}, -1, nil, api.ErrLong},
		{[]byte{1}, 1, nil, api.ErrShort},
		{nil, 1, nil, api.ErrShort},
		{[]byte{130, 0, 5, 6}, 0, nil, api.ErrForm},
		{run(9, 255, 1), math.MaxInt64, nil, api.ErrLong},
		{run(8, 255, 127), math.MaxInt64, nil, api.ErrShort},
		{run(9, 255, 2), math.MaxInt64, nil, api.ErrRange},
	} {
		r := wire.Read(c.b)
		data, e := r.Bytes(c.most), r.Err()
		if !bytes.Equal(data, c.want) || e != c.err {
			t.Errorf("%v, most %d: %v, %d", c.b, c.most, data, e)
		}
		if e != api.OK && r.Left() != len(c.b) {
			t.Errorf("%v, most %d: it did not stay", c.b, c.most)
		}
	}
}

// P1.2: behind an error nothing is read any more, and the first error stays.
func TestFirstErrorStays(t *testing.T) {
	for _, c := range []struct {
		b    []byte
		read func(r *wire.Reader)
		err  api.Errno
	}{
		{[]byte{7, 128, 0, 1, 1}, func(r *wire.Reader) { r.Number() }, api.ErrForm},
		{[]byte{7, 5, 1, 1, 1}, func(r *wire.Reader) { r.Within(0, 4) }, api.ErrRange},
		{[]byte{7, 2, 1, 1, 1}, func(r *wire.Reader) { r.Bool() }, api.ErrRange},
		{[]byte{7, 2, 1, 1, 1}, func(r *wire.Reader) { r.Bytes(1) }, api.ErrLong},
		{[]byte{7, 9, 1, 1, 1}, func(r *wire.Reader) { r.Bytes(9) }, api.ErrShort},
	} {
		r := wire.Read(c.b)
		if r.Number() != 7 {
			t.Error(c.b)
		}
		c.read(r)
		for range 2 {
			if r.Err() != c.err || r.End() != c.err || r.Left() != len(c.b)-1 {
				t.Errorf("%v: %d, %d, %d left", c.b, r.Err(), r.End(), r.Left())
			}
			if r.Number() != 0 || r.Within(0, 9) != 0 || r.Int() != 0 || r.Bool() || r.Bytes(9) != nil {
				t.Errorf("%v: something was read behind an error", c.b)
			}
		}
	}
}

// P1.2: End asks, and changes nothing.
func TestEnd(t *testing.T) {
	r := wire.Read([]byte{3, 4})
	for i, want := range []uint64{3, 4} {
		if r.End() != api.ErrMore || r.Err() != api.OK || r.Left() != 2-i {
			t.Error(r.End(), r.Err(), r.Left())
		}
		if n := r.Number(); n != want {
			t.Error(n)
		}
	}
	if r.End() != api.OK || r.Err() != api.OK || r.Left() != 0 {
		t.Error(r.End(), r.Err(), r.Left())
	}
	for _, b := range [][]byte{nil, {}} {
		if r := wire.Read(b); r.End() != api.OK || r.Left() != 0 {
			t.Error(r.End(), r.Left())
		}
	}
}

// The rule Objects: a reader that Read did not make.
func TestReaderThatReadDidNotMake(t *testing.T) {
	for _, r := range []*wire.Reader{nil, {}, new(wire.Reader)} {
		for range 2 {
			if r.Err() != api.ErrNil || r.End() != api.ErrNil || r.Left() != 0 {
				t.Error(r.Err(), r.End(), r.Left())
			}
			if r.Number() != 0 || r.Within(0, 9) != 0 || r.Int() != 0 || r.Bool() || r.Bytes(9) != nil {
				t.Error("something was read")
			}
		}
	}
}

// The rule Memory: a reader has a copy, and hands out copies; two readers know nothing of one another.
func TestReaderMemory(t *testing.T) {
	b := []byte{2, 5, 6, 2, 7, 8, 9}
	r, other := wire.Read(b[:6]), wire.Read(b[:6])
	first := r.Bytes(9)
	if !bytes.Equal(b, []byte{2, 5, 6, 2, 7, 8, 9}) {
		t.Error("reading wrote", b)
	}
	scribble(b)
	if !bytes.Equal(first, []byte{5, 6}) {
		t.Error("an answer shares what was handed in")
	}
	scribble(first)
	second := r.Bytes(9)
	if !bytes.Equal(second, []byte{7, 8}) {
		t.Error("the reader shares an answer, or what was handed in", second)
	}
	scribble(second)
	twin := *other // over the same memory: what one of them hands out must not be that
	scribble(other.Bytes(9))
	if !bytes.Equal(twin.Bytes(9), []byte{5, 6}) || !bytes.Equal(twin.Bytes(9), []byte{7, 8}) {
		t.Error("two readers share, or an answer is a reader's own memory")
	}
}
