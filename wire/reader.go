package wire

import (
	"towline/api"
)

// greatest is the greatest number that Within takes, whatever hi is.
const greatest = 1 << 62

// number is the number with which b begins, and how many bytes it has.
// The tenth byte has room for one bit of 64, those behind it for none.
func number(b []byte) (uint64, int, api.Errno) {
	var n uint64
	for i, c := range b {
		low := uint64(c & 127)
		if i == 9 && low > 1 || i > 9 && low > 0 {
			return 0, 0, api.ErrRange
		}
		n |= low << (7 * i)
		if c == 0 && i > 0 {
			return 0, 0, api.ErrForm
		}
		if c < 128 {
			return n, i + 1, api.OK
		}
	}
	return 0, 0, api.ErrShort
}

// chunk is the bytes that stand behind their count where b begins, and how many both have.
// They are still b's memory: whoever hands them out makes them new.
func chunk(b []byte, most int) ([]byte, int, api.Errno) {
	n, at, e := number(b)
	if e != api.OK {
		return nil, 0, e
	}
	if n > uint64(max(most, 0)) {
		return nil, 0, api.ErrLong
	}
	if n > uint64(len(b)-at) {
		return nil, 0, api.ErrShort
	}
	end := at + int(n)
	return b[at:end:end], end, api.OK
}

// Reader reads bytes from their beginning on.
type Reader struct {
	made bool // tells one that Read made from a plain Reader{}
	rest []byte
	err  api.Errno
}

// Read is one over a copy of bytes.
func Read(b []byte) *Reader { return &Reader{made: true, rest: own(b)} }

// Err is the first error; End that, or whether bytes are left; Left how many.
func (r *Reader) Err() api.Errno {
	if r == nil || !r.made {
		return api.ErrNil
	}
	return r.err
}

// End is the first error, or ErrMore if bytes are left.
func (r *Reader) End() api.Errno {
	if e := r.Err(); e != api.OK {
		return e
	}
	if len(r.rest) > 0 {
		return api.ErrMore
	}
	return api.OK
}

// Left is how many bytes are not read.
func (r *Reader) Left() int {
	if r == nil || !r.made {
		return 0
	}
	return len(r.rest)
}

// step goes on behind so many bytes; at an error it stays and keeps that.
func (r *Reader) step(size int, e api.Errno) {
	if e != api.OK {
		r.err = e
		return
	}
	r.rest = r.rest[size:]
}

// Number is the next number.
func (r *Reader) Number() uint64 {
	if r.Err() != api.OK {
		return 0
	}
	n, size, e := number(r.rest)
	r.step(size, e)
	return n
}

// Within is the next number, from lo to hi.
func (r *Reader) Within(lo, hi int) int {
	if r.Err() != api.OK {
		return 0
	}
	n, size, e := number(r.rest)
	if e == api.OK && (n > greatest || int64(n) < int64(lo) || int64(n) > int64(hi)) {
		n, e = 0, api.ErrRange
	}
	r.step(size, e)
	return int(n)
}

// Int is the next number with a sign.
func (r *Reader) Int() int { return int(Back(r.Number())) }

// Bool is whether something is so.
func (r *Reader) Bool() bool { return r.Within(0, 1) == 1 }

// Bytes is the next bytes, at most so many.
func (r *Reader) Bytes(most int) []byte {
	if r.Err() != api.OK {
		return nil
	}
	data, size, e := chunk(r.rest, most)
	r.step(size, e)
	return own(data)
}
