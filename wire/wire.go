// Package wire is layer 1: numbers, texts and records as bytes, each in one form (see ../../shared/doc/01-wire.md).
package wire

// own is b's bytes in memory of their own. The third index cuts b's room off:
// without it append would write behind b's end, into what the caller keeps there.
func own(b []byte) []byte { return append(b[:0:0], b...) }

// putNumber puts a number behind bytes that are the package's own.
func putNumber(b []byte, n uint64) []byte {
	for n >= 128 {
		b = append(b, byte(n)|128)
		n >>= 7
	}
	return append(b, byte(n))
}

// Put puts numbers behind bytes, seven bits a byte, the lowest first.
func Put(b []byte, l ...uint64) []byte {
	out := own(b)
	for _, n := range l {
		out = putNumber(out, n)
	}
	return out
}

// Turn is a number with a sign as one without: 0, -1, 1, -2, ..; Back turns it back.
func Turn(n int64) uint64 { return uint64(n)<<1 ^ uint64(n>>63) }

// Back is the number whose Turn is n.
func Back(n uint64) int64 { return int64(n>>1) ^ -int64(n&1) }

// PutInts puts numbers with signs.
func PutInts(b []byte, l ...int) []byte {
	out := own(b)
	for _, n := range l {
		out = putNumber(out, Turn(int64(n)))
	}
	return out
}

// PutBytes puts bytes, how many there are ahead of them.
func PutBytes(b, data []byte) []byte {
	return append(putNumber(own(b), uint64(len(data))), data...)
}

// PutBool puts whether something is so.
func PutBool(b []byte, yes bool) []byte {
	if yes {
		return Put(b, 1)
	}
	return Put(b, 0)
}
