package wire

import (
	"towline/api"
)

const (
	castagnoli = 0x82f63b78 // the polynomial of CRC-32C, its bits the other way around
	sumSize    = 4          // bytes of a sum behind a record
)

// Sum is the check sum of bytes.
func Sum(b []byte) uint32 {
	c := ^uint32(0)
	for _, x := range b {
		c ^= uint32(x)
		for range 8 {
			odd := c & 1
			c = c>>1 ^ castagnoli*odd
		}
	}
	return ^c
}

// putSum puts the sum of bytes that are the package's own behind them, the highest byte first.
func putSum(b []byte) []byte {
	s := Sum(b)
	return append(b, byte(s>>24), byte(s>>16), byte(s>>8), byte(s))
}

// getSum is the sum that stands in the first four bytes.
func getSum(b []byte) uint32 {
	var s uint32
	for _, x := range b[:sumSize] {
		s = s<<8 | uint32(x)
	}
	return s
}

// Seal is a record of bytes: how many, the bytes, the sum of both.
func Seal(data []byte) ([]byte, api.Errno) {
	if len(data) > api.MaxFrame {
		return nil, api.ErrLong
	}
	return putSum(PutBytes(nil, data)), api.OK
}

// Open is the bytes of the record with which others begin, and how many it has.
func Open(b []byte) ([]byte, int, api.Errno) {
	// No Reader here: it would copy all that stands behind the record, and All opens one behind the other.
	data, end, e := chunk(b, api.MaxFrame)
	if e != api.OK {
		return nil, 0, e
	}
	if len(b)-end < sumSize {
		return nil, 0, api.ErrShort
	}
	if getSum(b[end:]) != Sum(b[:end]) {
		return nil, 0, api.ErrSum
	}
	return own(data), end + sumSize, api.OK
}

// All is the bytes of all records with which others begin, one behind the other, and how many these have.
func All(b []byte) ([][]byte, int) {
	var l [][]byte
	at := 0
	for {
		data, size, e := Open(b[at:])
		if e != api.OK {
			return l, at
		}
		l = append(l, data)
		at += size
	}
}
