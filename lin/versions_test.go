package lin_test

import (
	"math"
	"math/rand/v2"
	"slices"
	"strconv"
	"testing"

	"towline/api"
	"towline/lin"
)

// P7.2: each thing that is asked of versions, and its edge.
func TestVersions(t *testing.T) {
	a1 := with(1, wrote("a", 1, 3))
	for _, c := range []struct {
		name string
		want bool
		l    []api.Op
	}{
		{"no calls", true, nil},
		{"one version of two writes", false, []api.Op{a1, with(1, wrote("a", 1, 3))}},
		{"one version of two writes, unanswered", false, []api.Op{a1, with(1, wrote("b", 1, 0))}},
		{"no version of two writes, unanswered", true, []api.Op{wrote("a", 1, 0), wrote("a", 1, 0)}},
		{"an answered write without one", false, []api.Op{wrote("a", 1, 2)}},
		{"an answered write below 0", false, []api.Op{with(-1, wrote("a", 1, 2))}},
		{"a read of nothing", true, []api.Op{read("", 1, 2)}},
		{"a value without a version", false, []api.Op{read("a", 1, 2)}},
		{"a value without a version, written without one", false, []api.Op{wrote("a", 1, 0), read("a", 3, 4)}},
		{"an unanswered read counts for nothing", true, []api.Op{with(7, read("x", 1, 0)), a1}},
		{"a version that nobody wrote", false, []api.Op{with(1, read("", 1, 2))}},
		{"a version of a read alone", false, []api.Op{with(1, read("a", 1, 0)), with(1, read("a", 1, 2))}},
		{"its value", true, []api.Op{a1, with(1, read("a", 4, 5))}},
		{"another value", false, []api.Op{a1, with(1, read("b", 4, 5))}},
		{"of an unanswered write", true, []api.Op{with(1, wrote("a", 1, 0)), with(1, read("a", 4, 5))}},
		{"begun ahead of its end", true, []api.Op{with(1, read("a", 1, 3)), with(1, wrote("a", 2, 0))}},
		{"begun at its end", false, []api.Op{with(1, read("a", 1, 3)), with(1, wrote("a", 3, 0))}},
		{"an empty value of a version", true, []api.Op{with(1, wrote("", 1, 2)), with(1, read("", 3, 4))}},
		{"a read behind, lesser", false, []api.Op{a1, read("", 4, 5)}},
		{"a read at its end, lesser", true, []api.Op{a1, read("", 3, 5)}},
		{"an unanswered read behind, lesser", true, []api.Op{a1, read("", 4, 0)}},
		{"a write behind, greater", true, []api.Op{with(2, wrote("b", 4, 5)), a1}},
		{"a write behind, lesser", false, []api.Op{with(2, wrote("b", 1, 3)), with(1, wrote("a", 4, 5))}},
		{"an unanswered write behind, lesser", false, []api.Op{with(2, wrote("b", 1, 3)), with(1, wrote("a", 4, 0))}},
		{"an unanswered write behind, without a version", true, []api.Op{a1, wrote("b", 4, 0)}},
		{"reads of one version", true, []api.Op{with(1, read("a", 6, 7)), a1, with(1, read("a", 4, 5))}},
		{"reads that fall", false, []api.Op{a1, with(2, wrote("b", 2, 0)), with(2, read("b", 4, 5)), with(1, read("a", 6, 7))}},
		{"reads at one time", true, []api.Op{a1, with(2, wrote("b", 2, 0)), with(2, read("b", 4, 6)), with(1, read("a", 6, 7))}},
		{"a read ahead of a write that is not greater", false, []api.Op{a1, with(3, wrote("c", 1, 0)), with(3, read("c", 4, 5)), with(2, wrote("b", 6, 7))}},
		{"more than may be searched", true, slices.Repeat([]api.Op{read("", 1, 2)}, 1000)},
	} {
		if got := lin.Versions(c.l...); got != c.want || explained(c.l) != c.want {
			t.Errorf("%s: %v", c.name, got)
		}
	}
}

// P7.2: by version; of one version writes first; then by beginnings; then by places.
func TestBy(t *testing.T) {
	for _, c := range []struct {
		l    []api.Op
		want []int
	}{
		{nil, nil},
		{[]api.Op{wrote("a", 1, 0), read("a", 1, 0), with(3, read("a", 1, 0))}, nil},
		{[]api.Op{with(3, wrote("a", 9, 0)), wrote("a", 1, 2), read("a", 1, 2)}, []int{1, 2, 0}},
		{[]api.Op{with(2, wrote("a", 5, 9)), with(1, wrote("a", 1, 2)), with(2, read("b", 6, 7))}, []int{1, 0, 2}},
		{[]api.Op{with(1, read("a", 2, 3)), with(1, read("a", 1, 9)), with(1, wrote("a", 5, 0))}, []int{2, 1, 0}},
		{[]api.Op{with(1, read("a", 2, 9)), with(1, read("b", 2, 3)), read("", 7, 8), read("", 7, 9)}, []int{2, 3, 0, 1}},
		{[]api.Op{with(1, wrote("a", 4, 9)), with(1, wrote("b", 4, 0)), with(1, wrote("c", 3, 5))}, []int{2, 0, 1}},
	} {
		if got := lin.By(c.l...); !slices.Equal(got, c.want) || !slices.Equal(listed(c.l), c.want) {
			t.Errorf("%v: %v, not %v", c.l, got, c.want)
		}
	}
}

// oddCalls is calls of which some can't be.
func oddCalls(r *rand.Rand) []api.Op {
	odd := []int{math.MinInt, -3, -1, 0, 1, 2, 3, math.MaxInt}
	l := someCalls(r, 6)
	if r.IntN(2) == 0 {
		l = told(r, 1+r.IntN(6))
	}
	for i := range l {
		switch r.IntN(8) {
		case 0:
			l[i].Began = odd[r.IntN(len(odd))]
		case 1:
			l[i].Ended = odd[r.IntN(len(odd))]
		case 2:
			l[i].Ver = odd[r.IntN(len(odd))]
		}
	}
	return l
}

// P7.2: held against the plain model, also of calls that can't be.
func TestVersionsAgainstModel(t *testing.T) {
	r := rand.New(rand.NewPCG(75, 1))
	yes := 0
	for n := range 60000 {
		var l []api.Op
		switch n % 3 {
		case 0:
			l = someCalls(r, 5)
		case 1:
			l = told(r, 1+r.IntN(10))
		default:
			l = oddCalls(r)
		}
		if len(l) > 0 && r.IntN(2) == 0 {
			i := r.IntN(len(l))
			l[i].Ver += r.IntN(3) - 1
		}
		got := lin.Versions(l...)
		if got != explained(l) {
			t.Fatalf("%v: %v", l, got)
		}
		if row := lin.By(l...); !slices.Equal(row, listed(l)) {
			t.Fatalf("%v: By %v", l, row)
		}
		if got {
			yes++
		}
	}
	if yes < 5000 || yes > 55000 {
		t.Error("too few of one kind", yes)
	}
}

// P7.3: if calls may be, and versions explain them, By is an order; so there is one.
func TestVersionsAreAnOrder(t *testing.T) {
	r := rand.New(rand.NewPCG(76, 1))
	yes := 0
	for n := range 20000 {
		l := someCalls(r, 6)
		if n%2 == 0 {
			l = told(r, 1+r.IntN(api.MaxOps))
			for range r.IntN(3) {
				i := r.IntN(len(l))
				l[i].Ver = max(0, l[i].Ver+r.IntN(3)-1)
			}
		}
		if lin.Right(l) != api.OK || !lin.Versions(l...) {
			continue
		}
		yes++
		if row := lin.By(l...); !fits(row, l) || !lin.Fits(row, l...) {
			t.Fatalf("%v: %v", l, row)
		}
		if _, ok, e := lin.Order(l...); !ok || e != api.OK {
			t.Fatalf("%v: %v, %d", l, ok, e)
		}
	}
	if yes < 3000 {
		t.Error("too few", yes)
	}
}

// P7.2: what one register told is explained by its versions.
func TestVersionsOfARegister(t *testing.T) {
	r := rand.New(rand.NewPCG(77, 1))
	for range 2000 {
		l := told(r, 1+r.IntN(60))
		// A write that nobody heard of was done, or has no version.
		if !lin.Versions(l...) {
			t.Fatal(l)
		}
	}
}

// The rule Ends: long lists, and calls that can't be.
func TestVersionsLong(t *testing.T) {
	var l []api.Op
	for i := range 100000 {
		v := strconv.Itoa(i)
		l = append(l, with(i+1, wrote(v, 4*i+1, 4*i+2)), with(i+1, read(v, 4*i+3, 4*i+4)))
	}
	if !lin.Versions(l...) {
		t.Error("a long list is not explained")
	}
	if row := lin.By(l...); !slices.IsSorted(row) || len(row) != len(l) {
		t.Error("a long list is not sorted")
	}
	l[100001].Ver--
	l[100001].Value = l[99999].Value
	if lin.Versions(l...) {
		t.Error("an elder version is told")
	}
	for _, o := range wrong {
		lin.Versions(o, o)
		lin.By(o, o)
	}
}

// The rule Memory.
func TestVersionsMemory(t *testing.T) {
	whole := []api.Op{with(1, read("a", 4, 5)), with(1, wrote("a", 1, 3)), with(2, wrote("b", 6, 0)), {Ver: 9}}
	was := slices.Clone(whole)
	l := whole[:3]
	first, second := lin.By(l...), lin.By(l...)
	if !lin.Versions(l...) || !slices.Equal(whole, was) {
		t.Error("an argument changed", whole)
	}
	first[0] = 9
	if !slices.Equal(second, []int{1, 0, 2}) || !slices.Equal(lin.By(l...), second) {
		t.Error("answers share", second)
	}
}
