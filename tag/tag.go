// Package tag is layer 3: short digests of bytes that hang on a key, by Chaskey with twelve rounds (see ../../shared/doc/03-tag.md).
package tag

import (
	"math/bits"

	"towline/api"
)

const (
	blockSize = 16
	rounds    = 12
	carried   = 0x87 // what the bit that a doubled key loses comes back as
)

// Key is a key as four words.
type Key [4]uint32

// words is 16 bytes as four words, the lowest byte first.
func words(b [blockSize]byte) Key {
	var k Key
	for i, x := range b {
		k[i/4] |= uint32(x) << (i % 4 * 8)
	}
	return k
}

// bytes turns words back.
func (k Key) bytes() [blockSize]byte {
	var b [blockSize]byte
	for i := range b {
		b[i] = byte(k[i/4] >> (i % 4 * 8))
	}
	return b
}

// doubled is the words as one number, shifted one bit up.
func (k Key) doubled() Key {
	lost := k[3] >> 31
	for i := 3; i > 0; i-- {
		k[i] = k[i]<<1 | k[i-1]>>31
	}
	k[0] = k[0]<<1 ^ carried*lost
	return k
}

// with is the words exclusive-ored with others.
func (k Key) with(l Key) Key {
	for i := range k {
		k[i] ^= l[i]
	}
	return k
}

// stirred is the words after all rounds.
func (k Key) stirred() Key {
	a, b, c, d := k[0], k[1], k[2], k[3]
	for range rounds {
		a += b
		c += d
		b = bits.RotateLeft32(b, 5) ^ a
		d = bits.RotateLeft32(d, 8) ^ c
		a = bits.RotateLeft32(a, 16) + d
		c += b
		b = bits.RotateLeft32(b, 7) ^ c
		d = bits.RotateLeft32(d, 13) ^ a
		c = bits.RotateLeft32(c, 16)
	}
	return Key{a, b, c, d}
}

// last is the last block, of at most 16 bytes, and what goes in at the end:
// a filled up block has another end than a whole one, so that no two data look alike there.
func (k Key) last(data []byte) (block, end Key) {
	var b [blockSize]byte
	n := copy(b[:], data)
	end = k.doubled()
	if n < blockSize {
		b[n] = 1
		end = end.doubled()
	}
	return words(b), end
}

// Of is the digest of bytes by a key of 16 bytes.
func Of(key, data []byte) ([16]byte, api.Errno) {
	if len(key) != blockSize {
		return [16]byte{}, api.ErrArg
	}
	k := words([blockSize]byte(key))
	state := k
	for len(data) > blockSize {
		state = state.with(words([blockSize]byte(data))).stirred()
		data = data[blockSize:]
	}
	block, end := k.last(data)
	return state.with(block).with(end).stirred().with(end).bytes(), api.OK
}

// Same tells whether two digests are, looking at all of both.
func Same(a, b [16]byte) bool {
	var unlike byte
	for i := range a {
		unlike |= a[i] ^ b[i]
	}
	return unlike == 0
}

// Short is the first bytes of a digest as a number, the highest first.
func Short(key, data []byte) (uint64, api.Errno) {
	d, e := Of(key, data)
	if e != api.OK {
		return 0, e
	}
	var n uint64
	for _, x := range d[:8] {
		n = n<<8 | uint64(x)
	}
	return n, api.OK
}
