package mask_test

import (
	"math"
	"math/bits"
	"math/rand/v2"
	"slices"
	"testing"

	"towline/mask"
)

// odd is numbers that no set has, and edges of those that one may have.
var odd = []int{math.MinInt64, -65, -64, -1, 0, 1, 31, 32, 62, 63, 64, 65, 127, 128, math.MaxInt32, math.MaxInt64}

// sets is sets of few numbers, of many, of one, of none, of all.
func sets() []mask.Set {
	l := []mask.Set{0, math.MaxUint64, 1, 1 << 63, 1 | 1<<63, 33}
	r := rand.New(rand.NewPCG(8, 8))
	for range 100 {
		l = append(l, mask.Set(r.Uint64()), mask.Set(r.Uint64()&r.Uint64()&r.Uint64()), mask.Set(r.Uint64()|r.Uint64()|r.Uint64()))
	}
	return l
}

// listed is a set's numbers, found bit by bit.
func listed(s mask.Set) []int {
	var l []int
	for w, n := uint64(s), 0; w != 0; w, n = w/2, n+1 {
		if w%2 == 1 {
			l = append(l, n)
		}
	}
	return l
}

// P2.1: the chapter's example, and numbers that are left out.
func TestOf(t *testing.T) {
	for _, c := range []struct {
		l    []int
		want mask.Set
	}{
		{nil, 0},
		{[]int{}, 0},
		{[]int{0, 5, 64}, 33},
		{[]int{5, 0, 5}, 33},
		{[]int{5, 0, 0, 5, 5}, 33},
		{[]int{63}, 1 << 63},
		{[]int{-1, 64, 128, -64, math.MinInt64, math.MaxInt64}, 0},
		{[]int{math.MinInt64, 3, math.MaxInt64, 62}, 1<<3 | 1<<62},
	} {
		if s := mask.Of(c.l...); s != c.want {
			t.Errorf("%v: %d, not %d", c.l, s, c.want)
		}
	}
	s := mask.Of(0, 5, 64)
	if s.Low() != 0 || s.High() != 5 || s.At(1) != 5 || s.Rank(5) != 1 {
		t.Error(s.Low(), s.High(), s.At(1), s.Rank(5))
	}
}

// P2.1: each number for itself.
func TestHasWithWithout(t *testing.T) {
	for _, s := range sets() {
		l := listed(s)
		for _, n := range append(odd, l...) {
			in := slices.Contains(l, n)
			if s.Has(n) != in {
				t.Fatalf("%x has %d: %v", s, n, s.Has(n))
			}
			more, less := slices.Clone(l), slices.Clone(l)
			if !in && n >= 0 && n < 64 {
				more = append(more, n)
				slices.Sort(more)
			}
			less = slices.DeleteFunc(less, func(m int) bool { return m == n })
			if !slices.Equal(listed(s.With(n)), more) || !slices.Equal(listed(s.Without(n)), less) {
				t.Fatalf("%x, %d: with %x, without %x", s, n, s.With(n), s.Without(n))
			}
		}
	}
}

// P2.1: counts, ends, and all of them.
func TestLenLowHighAll(t *testing.T) {
	for _, s := range sets() {
		l := listed(s)
		low, high := -1, -1
		if len(l) > 0 {
			low, high = l[0], l[len(l)-1]
		}
		if s.Len() != len(l) || s.Low() != low || s.High() != high || !slices.Equal(s.All(), l) {
			t.Fatalf("%x: %d, %d, %d, %v", s, s.Len(), s.Low(), s.High(), s.All())
		}
	}
}

// P2.1, P2.4: Rank and At, and that they turn one another around.
func TestRankAt(t *testing.T) {
	for _, s := range sets() {
		l := listed(s)
		for _, n := range append(odd, l...) {
			below := 0
			for _, m := range l {
				if m < n {
					below++
				}
			}
			if s.Rank(n) != below {
				t.Fatalf("%x: Rank(%d) %d, not %d", s, n, s.Rank(n), below)
			}
		}
		for _, i := range append(odd, len(l)-1, len(l)) {
			want := -1
			if i >= 0 && i < len(l) {
				want = l[i]
			}
			if s.At(i) != want {
				t.Fatalf("%x: At(%d) %d, not %d", s, i, s.At(i), want)
			}
		}
		for i, n := range l {
			if s.At(i) != n || s.Rank(n) != i || s.At(s.Rank(n)) != n || s.Rank(s.At(i)) != i {
				t.Fatalf("%x: At(%d) %d, Rank(%d) %d", s, i, s.At(i), n, s.Rank(n))
			}
		}
	}
}

// P2.1, P2.6: what is in one of both, in both, in the first alone; how many these are.
func TestOrAndBut(t *testing.T) {
	l := sets()
	for i, s := range l {
		u := l[(i*7+3)%len(l)]
		for n := range 64 {
			a, b := s.Has(n), u.Has(n)
			if s.Or(u).Has(n) != (a || b) || s.And(u).Has(n) != (a && b) || s.But(u).Has(n) != (a && !b) {
				t.Fatalf("%x, %x: %d", s, u, n)
			}
		}
		if s.Len()+u.Len() != s.Or(u).Len()+s.And(u).Len() || s.But(u).Len() != s.Len()-s.And(u).Len() {
			t.Fatalf("%x, %x: counts", s, u)
		}
	}
}

// P2.1, P2.4: each number m turns into (m + n) mod 64; turned back it is as it was.
func TestTurned(t *testing.T) {
	by := append([]int{2, 5, -5, -63, -62, 100, -100, math.MinInt64 + 1, math.MaxInt64 - 1}, odd...)
	for _, s := range sets() {
		for _, n := range by {
			var want mask.Set
			for _, m := range listed(s) {
				want = want.With((m + (n%64+64)%64) % 64)
			}
			if got := s.Turned(n); got != want {
				t.Fatalf("%x by %d: %x, not %x", s, n, got, want)
			}
			if back := s.Turned(n).Turned(-n); back != s {
				t.Fatalf("%x by %d, and back: %x", s, n, back)
			}
		}
	}
}

// P2.1: more than half, and not half.
func TestMost(t *testing.T) {
	for _, c := range []struct {
		s, of mask.Set
		want  bool
	}{
		{mask.Of(), mask.Of(), false},
		{mask.Of(1, 2), mask.Of(), false},
		{mask.Of(), mask.Of(1), false},
		{mask.Of(1), mask.Of(1), true},
		{mask.Of(2), mask.Of(1), false},
		{mask.Of(1), mask.Of(1, 2), false},
		{mask.Of(1, 2), mask.Of(1, 2), true},
		{mask.Of(1), mask.Of(1, 2, 3), false},
		{mask.Of(1, 3), mask.Of(1, 2, 3), true},
		{mask.Of(1, 4, 5, 6), mask.Of(1, 2, 3), false},
		{mask.Of(1, 2, 4, 5, 6), mask.Of(1, 2, 3), true},
		{mask.Of(0, 63), mask.Of(0, 1, 62, 63), false},
		{math.MaxUint64, math.MaxUint64, true},
		{math.MaxUint32, math.MaxUint64, false},
		{1<<33 - 1, math.MaxUint64, true},
	} {
		if got := c.s.Most(c.of); got != c.want {
			t.Errorf("%v of %v: %v", c.s.All(), c.of.All(), got)
		}
	}
}

// P2.7: two sets that have most of a third one share a number of it: all sets of up to five numbers.
func TestMajoritiesShare(t *testing.T) {
	for of := mask.Set(0); of < 32; of++ {
		for a := mask.Set(0); a < 32; a++ {
			if a.Most(of) != (2*bits.OnesCount64(uint64(a&of)) > bits.OnesCount64(uint64(of))) {
				t.Fatalf("%x of %x", a, of)
			}
			for b := mask.Set(0); b < 32; b++ {
				if a.Most(of) && b.Most(of) && a.And(b).And(of) == 0 {
					t.Fatalf("%x and %x have most of %x", a, b, of)
				}
			}
		}
	}
}

// The rule Memory: a list is neither changed nor kept, and each answer is new.
func TestSetMemory(t *testing.T) {
	l := []int{5, 0, 64}
	s := mask.Of(l...)
	if !slices.Equal(l, []int{5, 0, 64}) {
		t.Error(l)
	}
	first, second := s.All(), s.All()
	first[0] = 9
	if !slices.Equal(second, []int{0, 5}) || !slices.Equal(s.All(), []int{0, 5}) {
		t.Error("answers share")
	}
}
