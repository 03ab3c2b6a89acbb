package lin_test

import (
	"math"
	"math/rand/v2"
	"slices"
	"strings"
	"testing"

	"towline/api"
	"towline/lin"
)

// wrote and read are calls; an end of 0 is none.
func wrote(value string, began, ended int) api.Op {
	return api.Op{Write: true, Value: value, Began: began, Ended: ended}
}

func read(value string, began, ended int) api.Op {
	return api.Op{Value: value, Began: began, Ended: ended}
}

// with is a call with a version.
func with(ver int, o api.Op) api.Op {
	o.Ver = ver
	return o
}

// wrong is calls that can't be.
var wrong = []api.Op{
	{},
	read("", 0, 0), read("", 0, 1), read("", -1, 1), read("", math.MinInt, 0),
	read("", 5, 5), read("", 5, 4), read("", 5, 1), read("", 5, -1), read("", 1, math.MinInt), read("", math.MaxInt, 1),
	with(-1, read("", 1, 2)), with(math.MinInt, read("", 1, 2)), with(api.MaxIndex+1, read("", 1, 2)), with(math.MaxInt, wrote("", 1, 2)),
	wrote(strings.Repeat("x", 25), 1, 2), read(strings.Repeat("x", 25), 1, 0), wrote(strings.Repeat("x", 1<<16), 1, 2),
}

// P7.1: calls that may be, at their edges.
func TestRight(t *testing.T) {
	for _, l := range [][]api.Op{
		nil,
		{},
		{read("", 1, 0)},
		{wrote("", 1, 2)},
		{with(api.MaxIndex, wrote(strings.Repeat("x", 24), 1, 2)), with(0, read("", math.MaxInt, 0)), read("", math.MaxInt-1, math.MaxInt)},
		{read(strings.Repeat("é", 12), 1, math.MaxInt)},
		slices.Repeat([]api.Op{read("", 1, 0)}, 24),
	} {
		if e := lin.Right(l); e != api.OK {
			t.Errorf("%v: %d", l, e)
		}
	}
	for _, o := range wrong {
		for at := range 24 {
			l := slices.Repeat([]api.Op{read("", 1, 2)}, 24)
			l[at] = o
			if e := lin.Right(l); e != api.ErrCall {
				t.Errorf("%v at %d: %d", o, at, e)
			}
		}
	}
	// The length is the first error.
	for _, l := range [][]api.Op{make([]api.Op, 25), slices.Repeat([]api.Op{read("", 1, 2)}, 25), make([]api.Op, 1<<16)} {
		if e := lin.Right(l); e != api.ErrLong {
			t.Errorf("%d calls: %d", len(l), e)
		}
	}
}

// P7.1: calls that can't be, and too many, have no order, and none fits.
func TestOrderErrors(t *testing.T) {
	for _, o := range wrong {
		if row, ok, e := lin.Order(read("", 1, 2), o); len(row) != 0 || ok || e != api.ErrCall {
			t.Errorf("%v: %v, %v, %d", o, row, ok, e)
		}
		if lin.Fits([]int{0, 1}, read("", 1, 2), o) || lin.Fits(nil, o) {
			t.Errorf("%v fits", o)
		}
	}
	many := slices.Repeat([]api.Op{read("", 1, 0)}, 25)
	if row, ok, e := lin.Order(many...); len(row) != 0 || ok || e != api.ErrLong {
		t.Errorf("%v, %v, %d", row, ok, e)
	}
	if lin.Fits(nil, many...) || !lin.Fits(nil, many[:24]...) {
		t.Error("25 calls fit, or 24 do not")
	}
}

// P7.1: the chapter's examples, and orders that there are, or are not. The plain model says the same.
func TestOrder(t *testing.T) {
	for _, c := range []struct {
		name string
		want bool
		l    []api.Op
	}{
		{"no calls", true, nil},
		{"seen", true, []api.Op{wrote("a", 1, 2), read("a", 3, 4)}},
		{"not seen", false, []api.Op{wrote("a", 1, 2), read("", 3, 4)}},
		{"gone again", false, []api.Op{wrote("a", 1, 0), read("a", 3, 4), read("", 5, 6)}},
		{"done later", true, []api.Op{wrote("a", 1, 0), read("", 3, 4), read("a", 5, 6)}},
		{"never done", true, []api.Op{wrote("a", 1, 0), read("", 3, 4), read("", 5, 6)}},
		{"a read that was not answered counts for nothing", true, []api.Op{read("x", 1, 0)}},
		{"of nothing", true, []api.Op{read("", 1, 2)}},
		{"of what nobody wrote", false, []api.Op{read("x", 1, 2)}},
		{"an empty value that was written", true, []api.Op{wrote("a", 1, 2), wrote("", 3, 4), read("", 5, 6)}},
		{"an end at the time of a beginning parts nothing", true, []api.Op{wrote("a", 1, 3), read("", 3, 4)}},
		{"an end just ahead of it does", false, []api.Op{wrote("a", 1, 3), read("", 4, 5)}},
		{"from the future", false, []api.Op{read("a", 1, 2), wrote("a", 3, 4)}},
		{"from the future, unanswered", false, []api.Op{read("a", 1, 2), wrote("a", 3, 0)}},
		{"begun when it ended", true, []api.Op{read("a", 1, 2), wrote("a", 2, 3)}},
		{"two writes at one time, read both ways", false, []api.Op{wrote("a", 1, 2), wrote("b", 1, 2), read("a", 3, 4), read("b", 5, 6)}},
		{"two writes at one time, read one way", true, []api.Op{wrote("a", 1, 2), wrote("b", 1, 2), read("a", 3, 4), read("a", 5, 6)}},
		{"there and back", false, []api.Op{wrote("a", 1, 2), wrote("b", 3, 0), read("b", 4, 5), read("a", 6, 7)}},
		{"there and back by two writes of one value", true, []api.Op{wrote("a", 1, 0), wrote("b", 1, 0), wrote("a", 1, 0), read("a", 2, 3), read("b", 4, 5), read("a", 6, 7)}},
		{"writes nobody reads, between", true, []api.Op{wrote("x", 1, 9), wrote("y", 1, 9), wrote("a", 1, 9), read("a", 10, 11)}},
		{"two that lie across", false, []api.Op{wrote("a", 1, 2), wrote("b", 3, 4), read("a", 3, 6), read("a", 7, 8)}},
	} {
		row, ok, e := lin.Order(c.l...)
		if ok != c.want || e != api.OK || ok && !fits(row, c.l) || !ok && len(row) > 0 || ordered(c.l) != c.want {
			t.Errorf("%s: %v, %v, %d", c.name, row, ok, e)
		}
	}
}

// P7.1: rows that are orders, and rows that are none.
func TestFits(t *testing.T) {
	l := []api.Op{wrote("a", 1, 2), read("a", 3, 4), wrote("b", 3, 0), read("b", 3, 0)}
	for _, row := range [][]int{{0, 1}, {0, 1, 2}, {0, 1, 2, 3}} {
		if !lin.Fits(row, l...) {
			t.Errorf("%v does not fit", row)
		}
	}
	for _, row := range [][]int{
		nil, {}, {0}, {1}, // an answered call is lacking
		{1, 0},                             // ahead of one that ended ahead of its beginning
		{2, 0, 1}, {0, 2, 1}, {0, 1, 3, 2}, // another value; an unanswered one has to fit, too
		{0, 1, 3},                                        // a read of what was not written
		{0, 1, 1}, {0, 0, 1}, {0, 1, 2, 2}, {0, 1, 2, 0}, // twice
		{0, 1, 4}, {0, 1, -1}, {-1, 0, 1}, {4}, {0, 1, math.MaxInt}, {math.MinInt, 0, 1}, {0, 1, 64}, {0, 65}, // no such call
		make([]int, 1<<16),
	} {
		if lin.Fits(row, l...) {
			t.Errorf("%v fits", row)
		}
	}
	if !lin.Fits(nil) || !lin.Fits([]int{}) || lin.Fits([]int{0}) {
		t.Error("no calls")
	}
	if !lin.Fits([]int{0, 1}, wrote("", 1, 2), read("", 1, 0)) || !lin.Fits([]int{1, 0}, wrote("a", 1, 2), read("", 2, 3)) {
		t.Error("empty values")
	}
}

// P7.1: each row of few calls, held against the plain model.
func TestFitsAll(t *testing.T) {
	r := rand.New(rand.NewPCG(70, 1))
	for range 300 {
		l := someCalls(r, 4)
		for n := range 5 * 5 * 5 * 5 {
			var row []int
			for ; n > 0; n /= 5 {
				row = append(row, n%5-1+r.IntN(2))
			}
			if got := lin.Fits(row, l...); got != fits(row, l) {
				t.Fatalf("%v, %v: %v", row, l, got)
			}
		}
	}
}

// P7.1, P7.4: an order is told just where there is one, and fits.
func TestOrderAgainstModel(t *testing.T) {
	r := rand.New(rand.NewPCG(71, 1))
	yes := 0
	for range 30000 {
		l := someCalls(r, 7)
		row, ok, e := lin.Order(l...)
		if e != api.OK || ok != ordered(l) || ok && !fits(row, l) || !ok && len(row) > 0 {
			t.Fatalf("%v: %v, %v, %d", l, row, ok, e)
		}
		if ok != lin.Fits(row, l...) && len(row) > 0 {
			t.Fatalf("%v: Fits %v", l, row)
		}
		if ok {
			yes++
		}
	}
	if yes < 5000 || yes > 25000 {
		t.Error("too few of one kind", yes)
	}
}

// P7.1, P7.4: what one register told has an order, as many calls as there may be.
func TestOrderOfARegister(t *testing.T) {
	r := rand.New(rand.NewPCG(72, 1))
	for range 2000 {
		l := told(r, 1+r.IntN(api.MaxOps))
		row, ok, e := lin.Order(l...)
		if !ok || e != api.OK || !fits(row, l) || !lin.Fits(row, l...) {
			t.Fatalf("%v: %v, %v, %d", l, row, ok, e)
		}
	}
}

// P7.4: calls that have an order have one, too, when fewer of them were answered.
func TestFewerAnswered(t *testing.T) {
	r := rand.New(rand.NewPCG(73, 1))
	for range 3000 {
		l := told(r, 1+r.IntN(12))
		if r.IntN(2) == 0 {
			l = someCalls(r, 8)
		}
		if _, ok, _ := lin.Order(l...); !ok {
			continue
		}
		for i := range l {
			less := slices.Clone(l)
			for j := range less {
				if j == i || r.IntN(4) == 0 {
					less[j].Ended = 0
				}
			}
			if row, ok, e := lin.Order(less...); !ok || e != api.OK || !fits(row, less) {
				t.Fatalf("%v: %v, %v, %d", less, row, ok, e)
			}
		}
	}
}

// P7.5: a read behind a write, with no other write, has that one's value.
func TestSeen(t *testing.T) {
	values := []string{"", "a", "b", strings.Repeat("x", 24), strings.Repeat("x", 23) + "y", "\x00", "\xff"}
	for _, v := range values {
		for _, u := range values {
			l := []api.Op{read(u, 8, 9), wrote(v, 3, 7), read("q", 1, 0)}
			row, ok, e := lin.Order(l...)
			if e != api.OK || ok != (u == v) || ok && !slices.Equal(row, []int{1, 0}) {
				t.Errorf("%q, %q: %v, %v, %d", v, u, row, ok, e)
			}
		}
	}
}

// hard is 24 calls that are on their way at one time, with no order: many ways have to be tried.
func hard(unanswered bool) [][]api.Op {
	var out [][]api.Op
	end := func(n int) int {
		if unanswered {
			return 0
		}
		return n
	}
	var pairs, twice, blind []api.Op
	for i := range 11 {
		v := string(rune('a' + i))
		pairs = append(pairs, wrote(v, 1, end(100+i)), read(v, 1, 90-i))
	}
	out = append(out, append(pairs, read("?", 1, 200)))
	for i := range 7 {
		v := string(rune('a' + i))
		twice = append(twice, wrote(v, 1, end(100+i)), wrote(v, 2, end(100-i)), read(v, 40+i, 60+i))
	}
	out = append(out, append(twice, read("a", 70, 71), read("b", 72, 73), read("?", 80, 200)))
	for i := range 21 {
		blind = append(blind, wrote(string(rune('a'+i)), 1, end(50)))
	}
	return append(out, append(blind, wrote("!", 60, 61), read("a", 62, 63), read("!", 64, 65)))
}

// P7.1, and the rule Ends: no calls take long, though all of them have more orders than can be tried.
func TestOrderHard(t *testing.T) {
	for _, unanswered := range []bool{false, true} {
		for _, l := range hard(unanswered) {
			row, ok, e := lin.Order(l...)
			if e != api.OK || len(row) != 0 || ok != false {
				t.Errorf("%d calls, %v: %v, %v, %d", len(l), unanswered, row, ok, e)
			}
			for k := len(l) - 1; k >= 0; k-- {
				if row, ok, _ := lin.Order(l[:k]...); ok && !fits(row, l[:k]) {
					t.Errorf("%v: %v", l[:k], row)
				}
			}
		}
	}
	r := rand.New(rand.NewPCG(74, 1))
	for range 300 {
		l := make([]api.Op, api.MaxOps)
		for i := range l {
			l[i] = api.Op{Write: r.IntN(2) == 0, Value: string(rune('a' + r.IntN(9))), Began: 1 + r.IntN(12)}
			if !l[i].Write || r.IntN(3) > 0 {
				l[i].Ended = l[i].Began + 1 + r.IntN(12)
			}
		}
		if row, ok, e := lin.Order(l...); e != api.OK || ok && !fits(row, l) {
			t.Fatalf("%v: %v, %v, %d", l, row, ok, e)
		}
	}
}

// The rules Memory and From arguments alone.
func TestOrderMemory(t *testing.T) {
	whole := []api.Op{read("b", 1, 20), wrote("a", 1, 9), wrote("b", 2, 8), read("a", 10, 12), wrote("z", 99, 0), {Ver: 77}}
	was := slices.Clone(whole)
	l := whole[:4]
	first, ok, _ := lin.Order(l...)
	second, _, _ := lin.Order(l...)
	if !ok || !slices.Equal(first, second) {
		t.Fatal(first, second, ok)
	}
	row := make([]int, len(first), len(first)+3)
	copy(row, first)
	full := slices.Clone(row[:cap(row)])
	if !lin.Fits(row, l...) || lin.Right(l) != api.OK || !slices.Equal(row[:cap(row)], full) || !slices.Equal(whole, was) {
		t.Error("an argument changed", row, whole)
	}
	first[0] = 9
	if third, _, _ := lin.Order(l...); !slices.Equal(second, third) {
		t.Error("answers share")
	}
}
