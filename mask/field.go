package mask

import (
	"math/bits"

	"towline/api"
)

// ones is a word whose lowest n bits are 1; all of them, if n is 64 or more.
func ones(n int) uint64 { return 1<<n - 1 }

// width is how many bits fields have together; false: one has none, or a word has not as many.
func width(l []api.Field) (int, bool) {
	sum := 0
	for _, f := range l {
		if f.Bits < 1 || f.Bits > size-sum {
			return 0, false
		}
		sum += f.Bits
	}
	return sum, true
}

// holds tells whether a field's bits, 1 to 64 of them, have room for its value.
func holds(f api.Field) bool {
	if f.Sign {
		return Signed(uint64(f.Value), f.Bits) == f.Value
	}
	return f.Value >= 0 && uint64(f.Value) <= ones(f.Bits)
}

// Pack is fields in one word, the first one lowest.
func Pack(l ...api.Field) (uint64, api.Errno) {
	if _, ok := width(l); !ok {
		return 0, api.ErrField
	}
	var w uint64
	at := 0
	for _, f := range l {
		if !holds(f) {
			return 0, api.ErrField
		}
		w |= uint64(f.Value) & ones(f.Bits) << at
		at += f.Bits
	}
	return w, api.OK
}

// Unpack is the fields of a word, as wide as others, and with signs as they.
func Unpack(w uint64, l ...api.Field) ([]api.Field, api.Errno) {
	all, ok := width(l)
	if !ok || w>>all != 0 {
		return nil, api.ErrField
	}
	out := make([]api.Field, len(l))
	for i, f := range l {
		f.Value = int64(w & ones(f.Bits))
		if f.Sign {
			f.Value = Signed(w, f.Bits)
		}
		// A whole word above 2^63 - 1 has turned into a number below 0.
		if !holds(f) {
			return nil, api.ErrField
		}
		out[i] = f
		w >>= f.Bits
	}
	return out, api.OK
}

// Signed is the number with a sign that the lowest bits of a word are.
func Signed(w uint64, bits int) int64 {
	if bits < 1 || bits > size {
		return 0
	}
	// Shifted up as a word, and down as a number with a sign: that one brings its sign along.
	up := size - bits
	return int64(w<<up) >> up
}

// Narrow is a number as 8, 16 and 32 bits with a sign hold it.
func Narrow(n int64) (int8, int16, int32) { return int8(n), int16(n), int32(n) }

// Flip is a word with its bits the other way around.
func Flip(w uint64) uint64 { return bits.Reverse64(w) }
