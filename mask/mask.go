// Package mask is layer 2: sets of small numbers as bits of a word, and fields of bits in words (see ../../shared/doc/02-mask.md).
package mask

import (
	"math/bits"
)

// size is how many numbers a set may have, and how many bits a word has.
const size = 64

// Set is numbers from 0 to 63.
type Set uint64

// bit is the set of one number; a number that no set has is left out.
func bit(n int) Set {
	if n < 0 || n >= size {
		return 0
	}
	return 1 << n
}

// Of is the set of numbers; those that are out of range are left out.
func Of(l ...int) Set {
	var s Set
	for _, n := range l {
		s |= bit(n)
	}
	return s
}

// Has tells whether a number is in it; With is it with one, Without it without one.
func (s Set) Has(n int) bool { return s&bit(n) != 0 }

// With is it with one number more.
func (s Set) With(n int) Set { return s | bit(n) }

// Without is it without a number.
func (s Set) Without(n int) Set { return s &^ bit(n) }

// Len is how many it has.
func (s Set) Len() int { return bits.OnesCount64(uint64(s)) }

// Low is the least number in it; -1: there is none. High is the greatest one.
func (s Set) Low() int {
	if s == 0 {
		return -1
	}
	return bits.TrailingZeros64(uint64(s))
}

// High is the greatest number in it; -1: there is none.
func (s Set) High() int { return bits.Len64(uint64(s)) - 1 }

// Rank is how many numbers in it are below one; At is the i-th one (from 0 on), -1: there is none.
func (s Set) Rank(n int) int {
	below := Set(ones(max(n, 0)))
	return (s & below).Len()
}

// At is the number that has Rank i; -1: there is none.
func (s Set) At(i int) int {
	if i < 0 || i >= s.Len() {
		return -1
	}
	for range i {
		s = s.Without(s.Low())
	}
	return s.Low()
}

// All is all numbers in it, rising.
func (s Set) All() []int {
	var l []int
	for n := range size {
		if s.Has(n) {
			l = append(l, n)
		}
	}
	return l
}

// Or, And, But are what is in one of both, in both, in the first alone.
func (s Set) Or(t Set) Set { return s | t }

// And is what is in both.
func (s Set) And(t Set) Set { return s & t }

// But is what is in the first alone.
func (s Set) But(t Set) Set { return s &^ t }

// Turned is it with each number that much greater, those beyond 63 from 0 on again.
func (s Set) Turned(n int) Set { return Set(bits.RotateLeft64(uint64(s), n)) }

// Most tells whether it has more than half of another one's numbers.
func (s Set) Most(of Set) bool { return 2*s.And(of).Len() > of.Len() }
