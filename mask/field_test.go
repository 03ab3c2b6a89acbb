package mask_test

import (
	"math"
	"math/big"
	"math/rand/v2"
	"slices"
	"testing"

	"towline/api"
	"towline/mask"
)

// plain is a field without a sign, signed one with it.
func plain(bits int, v int64) api.Field  { return api.Field{Bits: bits, Value: v} }
func signed(bits int, v int64) api.Field { return api.Field{Bits: bits, Value: v, Sign: true} }

// P2.2: the word in which fields stand.
func TestPack(t *testing.T) {
	for _, c := range []struct {
		l    []api.Field
		want uint64
	}{
		{nil, 0},
		{[]api.Field{}, 0},
		{[]api.Field{signed(3, -1), plain(4, 9)}, 79},
		{[]api.Field{plain(4, 9), signed(3, -1)}, 7<<4 | 9},
		{[]api.Field{plain(1, 1)}, 1},
		{[]api.Field{plain(1, 0), plain(1, 1)}, 2},
		{[]api.Field{signed(1, -1)}, 1},
		{[]api.Field{signed(1, 0)}, 0},
		{[]api.Field{signed(64, math.MinInt64)}, 1 << 63},
		{[]api.Field{signed(64, -1)}, math.MaxUint64},
		{[]api.Field{signed(64, math.MaxInt64)}, math.MaxInt64},
		{[]api.Field{plain(64, math.MaxInt64)}, math.MaxInt64},
		{[]api.Field{plain(63, math.MaxInt64), plain(1, 1)}, math.MaxUint64},
		{[]api.Field{plain(1, 1), signed(63, -1<<62)}, 1<<63 | 1},
		{[]api.Field{signed(32, -1), plain(32, 5)}, 5<<32 | 0xffffffff},
	} {
		if w, e := mask.Pack(c.l...); w != c.want || e != api.OK {
			t.Errorf("%v: %x, %d, not %x", c.l, w, e, c.want)
		}
	}
	var l []api.Field
	for range 64 {
		l = append(l, plain(1, 1))
	}
	if w, e := mask.Pack(l...); w != math.MaxUint64 || e != api.OK {
		t.Errorf("64 fields: %x, %d", w, e)
	}
	if w, e := mask.Pack(append(l, plain(1, 0))...); w != 0 || e != api.ErrField {
		t.Errorf("65 fields: %x, %d", w, e)
	}
}

// P2.2: what is no field, or too many of them.
func TestPackErrors(t *testing.T) {
	for _, l := range [][]api.Field{
		{plain(0, 0)},
		{signed(0, 0)},
		{plain(-1, 0)},
		{plain(65, 0)},
		{plain(math.MinInt64, 0)},
		{plain(math.MaxInt64, 0), plain(math.MaxInt64, 0), plain(2, 0)}, // as ints they sum up to 0
		{plain(64, 0), plain(1, 0)},
		{plain(1, 0), plain(64, 0)},
		{plain(33, 0), signed(32, 0)},
		{plain(1, 2)},
		{plain(1, -1)},
		{plain(64, -1)},
		{plain(63, math.MinInt64)},
		{plain(4, 16)},
		{plain(62, 1<<62)},
		{signed(1, 1)},
		{signed(1, -2)},
		{signed(3, 4)},
		{signed(3, -5)},
		{signed(63, 1<<62)},
		{signed(63, -1<<62-1)},
		{plain(3, 1), plain(3, 8)},
		{plain(3, 1), plain(0, 0), plain(3, 1)},
	} {
		if w, e := mask.Pack(l...); w != 0 || e != api.ErrField {
			t.Errorf("%v: %x, %d", l, w, e)
		}
	}
}

// P2.2: the least and the greatest value of each width, and one beyond.
func TestPackEdges(t *testing.T) {
	check := func(f api.Field, ok bool) {
		t.Helper()
		w, e := mask.Pack(f)
		if ok != (e == api.OK) || !ok && (e != api.ErrField || w != 0) {
			t.Errorf("%v: %x, %d", f, w, e)
		}
	}
	for n := 1; n <= 64; n++ {
		low, high := int64(-1)<<(n-1), int64(1)<<(n-1)-1
		check(signed(n, low), true)
		check(signed(n, high), true)
		if n < 64 {
			check(signed(n, low-1), false)
			check(signed(n, high+1), false)
		}
		check(plain(n, 0), true)
		check(plain(n, -1), false)
		if n < 63 {
			check(plain(n, 1<<n-1), true)
			check(plain(n, 1<<n), false)
		} else {
			check(plain(n, math.MaxInt64), true)
		}
	}
}

// P2.2: the fields of a word; what the fields that are handed in have as values does not count.
func TestUnpack(t *testing.T) {
	for _, c := range []struct {
		w    uint64
		l    []api.Field
		want []api.Field
	}{
		{0, nil, nil},
		{79, []api.Field{signed(3, 0), plain(4, 0)}, []api.Field{signed(3, -1), plain(4, 9)}},
		{79, []api.Field{signed(3, 99), plain(4, -99)}, []api.Field{signed(3, -1), plain(4, 9)}},
		{1, []api.Field{signed(1, 0)}, []api.Field{signed(1, -1)}},
		{1, []api.Field{plain(1, 0)}, []api.Field{plain(1, 1)}},
		{1 << 63, []api.Field{signed(64, 0)}, []api.Field{signed(64, math.MinInt64)}},
		{math.MaxInt64, []api.Field{plain(64, 0)}, []api.Field{plain(64, math.MaxInt64)}},
		{math.MaxUint64, []api.Field{plain(63, 0), plain(1, 0)}, []api.Field{plain(63, math.MaxInt64), plain(1, 1)}},
		{math.MaxUint64, []api.Field{plain(1, 0), signed(63, 0)}, []api.Field{plain(1, 1), signed(63, -1)}},
		{0, []api.Field{plain(1, 7)}, []api.Field{plain(1, 0)}},
	} {
		if l, e := mask.Unpack(c.w, c.l...); !slices.Equal(l, c.want) || e != api.OK {
			t.Errorf("%x, %v: %v, %d", c.w, c.l, l, e)
		}
	}
}

// P2.2: words that are not packed so.
func TestUnpackErrors(t *testing.T) {
	for _, c := range []struct {
		w uint64
		l []api.Field
	}{
		{1, nil},
		{1 << 63, nil},
		{2, []api.Field{plain(1, 0)}},
		{1 << 63, []api.Field{plain(63, 0)}},
		{128, []api.Field{signed(3, -1), plain(4, 9)}},
		{1 << 63, []api.Field{plain(64, 0)}},
		{math.MaxUint64, []api.Field{plain(64, 0)}},
		{0, []api.Field{plain(0, 0)}},
		{0, []api.Field{signed(-1, 0)}},
		{0, []api.Field{plain(65, 0)}},
		{0, []api.Field{plain(64, 0), plain(1, 0)}},
		{0, []api.Field{plain(math.MaxInt64, 0), plain(math.MaxInt64, 0), plain(2, 0)}},
		{0, []api.Field{plain(math.MinInt64, 0)}},
		{0, []api.Field{plain(3, 0), plain(0, 0)}},
	} {
		if l, e := mask.Unpack(c.w, c.l...); len(l) != 0 || e != api.ErrField {
			t.Errorf("%x, %v: %v, %d", c.w, c.l, l, e)
		}
	}
}

// randomFields is fields of at most 64 bits, with values that they have room for.
func randomFields(r *rand.Rand) []api.Field {
	var l []api.Field
	for left := 64; left > 0 && r.IntN(8) > 0; {
		f := api.Field{Bits: 1 + r.IntN(left), Sign: r.IntN(2) == 0}
		if r.IntN(2) == 0 {
			f.Bits = 1 + r.IntN(min(left, 6))
		}
		left -= f.Bits
		f.Value = int64(r.Uint64() >> (64 - f.Bits))
		if f.Sign {
			f.Value = int64(r.Uint64()) >> (64 - f.Bits)
		} else if f.Bits == 64 {
			f.Value &= math.MaxInt64
		}
		l = append(l, f)
	}
	return l
}

// slowPack is the word as a number without a bound.
func slowPack(l []api.Field) uint64 {
	sum, place := new(big.Int), big.NewInt(1)
	for _, f := range l {
		whole := new(big.Int).Lsh(big.NewInt(1), uint(f.Bits))
		v := new(big.Int).Mod(big.NewInt(f.Value), whole)
		sum.Add(sum, v.Mul(v, place))
		place.Mul(place, whole)
	}
	return sum.Uint64()
}

// P2.2, P2.5: what is packed is unpacked as it was, and what is unpacked is packed as it was.
func TestPackedAndBack(t *testing.T) {
	r := rand.New(rand.NewPCG(9, 9))
	for range 5000 {
		l := randomFields(r)
		w, e := mask.Pack(l...)
		if e != api.OK || w != slowPack(l) {
			t.Fatalf("%v: %x, %d", l, w, e)
		}
		if k, e := mask.Unpack(w, l...); e != api.OK || !slices.Equal(k, l) {
			t.Fatalf("%v: unpacked %v, %d", l, k, e)
		}
		v := r.Uint64() >> r.IntN(64)
		k, e := mask.Unpack(v, l...)
		if e != api.OK {
			continue
		}
		if w, e := mask.Pack(k...); e != api.OK || w != v {
			t.Fatalf("%x as %v: packed %x, %d", v, k, w, e)
		}
	}
}

// P2.3: the lowest bits of a word as a number with a sign.
func TestSigned(t *testing.T) {
	for _, c := range []struct {
		w    uint64
		bits int
		want int64
	}{
		{7, 3, -1}, {3, 3, 3}, {4, 3, -4}, {15, 3, -1}, {8, 3, 0},
		{1, 1, -1}, {0, 1, 0}, {2, 1, 0},
		{1 << 63, 64, math.MinInt64}, {math.MaxUint64, 64, -1}, {math.MaxInt64, 64, math.MaxInt64},
		{1 << 62, 63, -1 << 62}, {1 << 63, 63, 0},
		{7, 0, 0}, {7, -1, 0}, {7, 65, 0}, {7, math.MinInt64, 0}, {7, math.MaxInt64, 0}, {math.MaxUint64, 128, 0},
	} {
		if n := mask.Signed(c.w, c.bits); n != c.want {
			t.Errorf("%x, %d bits: %d, not %d", c.w, c.bits, n, c.want)
		}
	}
	r := rand.New(rand.NewPCG(10, 10))
	for range 2000 {
		w, n := r.Uint64(), 1+r.IntN(64)
		whole := new(big.Int).Lsh(big.NewInt(1), uint(n))
		want := new(big.Int).SetUint64(w)
		want.Mod(want, whole)
		if half := new(big.Int).Rsh(whole, 1); want.Cmp(half) >= 0 {
			want.Sub(want, whole)
		}
		if got := mask.Signed(w, n); got != want.Int64() {
			t.Fatalf("%x, %d bits: %d, not %v", w, n, got, want)
		}
	}
}

// P2.3: a number in 8, 16, 32 bits.
func TestNarrow(t *testing.T) {
	for _, c := range []struct {
		n int64
		a int8
		b int16
		c int32
	}{
		{0, 0, 0, 0},
		{300, 44, 300, 300},
		{-129, 127, -129, -129},
		{127, 127, 127, 127},
		{128, -128, 128, 128},
		{32768, 0, -32768, 32768},
		{-32769, -1, 32767, -32769},
		{1 << 31, 0, 0, math.MinInt32},
		{-1<<31 - 1, -1, -1, math.MaxInt32},
		{math.MaxInt64, -1, -1, -1},
		{math.MinInt64, 0, 0, 0},
		{-1, -1, -1, -1},
	} {
		if a, b, d := mask.Narrow(c.n); a != c.a || b != c.b || d != c.c {
			t.Errorf("%d: %d, %d, %d", c.n, a, b, d)
		}
	}
}

// P2.3, P2.4: a word's bits the other way around; twice it is as it was.
func TestFlip(t *testing.T) {
	for i := range 64 {
		if w := mask.Flip(1 << i); w != 1<<(63-i) {
			t.Errorf("bit %d: %x", i, w)
		}
	}
	for w, want := range map[uint64]uint64{0: 0, math.MaxUint64: math.MaxUint64, 0b1011: 0b1101 << 60, math.MaxUint32: math.MaxUint32 << 32} {
		if got := mask.Flip(w); got != want {
			t.Errorf("%x: %x", w, got)
		}
	}
	for _, s := range sets() {
		if w := mask.Flip(mask.Flip(uint64(s))); w != uint64(s) {
			t.Errorf("%x: %x", s, w)
		}
	}
}

// The rule Memory: fields are neither changed nor handed out again.
func TestFieldMemory(t *testing.T) {
	l := make([]api.Field, 2, 4)
	l[0], l[1] = signed(3, 50), plain(4, 60)
	whole := slices.Clone(l[:4])
	first, _ := mask.Unpack(79, l...)
	second, _ := mask.Unpack(79, l...)
	mask.Pack(l...)
	if !slices.Equal(l[:4], whole) {
		t.Error("the argument changed", l)
	}
	first[0].Value = 2
	if !slices.Equal(l[:4], whole) || !slices.Equal(second, []api.Field{signed(3, -1), plain(4, 9)}) {
		t.Error("an answer shares", l, second)
	}
}
