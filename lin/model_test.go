package lin_test

import (
	"math/rand/v2"
	"slices"
	"strconv"

	"towline/api"
)

// fits is the chapter's words of an order, one by one.
func fits(row []int, l []api.Op) bool {
	place := map[int]int{}
	value := ""
	for at, i := range row {
		if _, there := place[i]; there || i < 0 || i >= len(l) {
			return false
		}
		place[i] = at
		if l[i].Write {
			value = l[i].Value
		} else if l[i].Value != value {
			return false
		}
	}
	for j, o := range l {
		at, in := place[j]
		if o.Ended == 0 {
			continue
		}
		if !in {
			return false
		}
		for _, i := range row[:at] {
			if o.Ended < l[i].Began {
				return false
			}
		}
	}
	return true
}

// ordered tells whether there is an order: it tries each one, call by call, all that may be.
func ordered(l []api.Op) bool {
	var row []int
	var try func() bool
	try = func() bool {
		if fits(row, l) {
			return true
		}
		for i := range l {
			if slices.Contains(row, i) || !mayCome(row, i, l) {
				continue
			}
			row = append(row, i)
			if try() {
				return true
			}
			row = row[:len(row)-1]
		}
		return false
	}
	return try()
}

// mayCome tells whether a call may come behind a row's, as far as this row can be an order's beginning then.
func mayCome(row []int, i int, l []api.Op) bool {
	for j, o := range l {
		if o.Ended != 0 && o.Ended < l[i].Began && !slices.Contains(row, j) {
			return false
		}
	}
	value := ""
	for _, j := range row {
		if l[j].Write {
			value = l[j].Value
		}
	}
	return l[i].Write || l[i].Value == value
}

// explained is the chapter's words of versions, pair by pair.
func explained(l []api.Op) bool {
	for i, o := range l {
		if o.Write && o.Ended != 0 && o.Ver <= 0 {
			return false
		}
		if !o.Write && o.Ended != 0 && !(o.Ver == 0 && o.Value == "") && !slices.ContainsFunc(l, func(w api.Op) bool {
			return w.Write && w.Ver > 0 && w.Ver == o.Ver && w.Value == o.Value && w.Began < o.Ended
		}) {
			return false
		}
		for j, second := range l {
			if i == j {
				continue
			}
			if o.Write && second.Write && o.Ver > 0 && o.Ver == second.Ver {
				return false
			}
			late := o.Ended != 0 && o.Ended < second.Began
			if late && (second.Ended != 0 || second.Write && second.Ver > 0) && (o.Ver > second.Ver || second.Write && o.Ver == second.Ver) {
				return false
			}
		}
	}
	return true
}

// listed is the chapter's words of By: again and again the one that comes first.
func listed(l []api.Op) []int {
	var row []int
	for {
		best := -1
		for i, o := range l {
			if slices.Contains(row, i) || o.Ended == 0 && !(o.Write && o.Ver > 0) {
				continue
			}
			if best < 0 || comesFirst(o, l[best]) {
				best = i
			}
		}
		if best < 0 {
			return row
		}
		row = append(row, best)
	}
}

func comesFirst(a, b api.Op) bool {
	switch {
	case a.Ver != b.Ver:
		return a.Ver < b.Ver
	case a.Write != b.Write:
		return a.Write
	}
	return a.Began < b.Began
}

// someCalls is calls that may be, of few values and times, so that many of them are on their way at one time.
func someCalls(r *rand.Rand, most int) []api.Op {
	l := make([]api.Op, r.IntN(most+1))
	values, span := 1+r.IntN(4), 2+r.IntN(12)
	for i := range l {
		o := api.Op{Write: r.IntN(2) == 0, Began: 1 + r.IntN(span), Ver: r.IntN(4)}
		if r.IntN(5) > 0 {
			o.Ended = o.Began + 1 + r.IntN(span)
		}
		if k := r.IntN(values + 1); k > 0 {
			o.Value = string(rune('a' + k))
		}
		l[i] = o
	}
	return l
}

// told is calls as one register tells them: each is done at some time between its beginning and its end, and knows its version then. Some ends are not known, and a write that nobody heard of may have been done, or not.
func told(r *rand.Rand, many int) []api.Op {
	l := make([]api.Op, many)
	at := make([]int, many)
	for i := range l {
		l[i] = api.Op{Write: r.IntN(2) == 0, Began: 1 + r.IntN(3*many)}
		at[i] = 10*(l[i].Began+1+r.IntN(many)) + r.IntN(10)
		l[i].Ended = at[i]/10 + 1 + r.IntN(many)
		if r.IntN(6) == 0 {
			l[i].Ended = 0
		}
	}
	row := make([]int, many)
	for i := range row {
		row[i] = i
	}
	slices.SortFunc(row, func(i, j int) int { return at[i] - at[j] })
	ver, value := 0, ""
	for _, i := range row {
		switch {
		case l[i].Write && l[i].Ended == 0 && r.IntN(2) == 0:
			l[i].Value = "lost"
		case l[i].Write:
			ver++
			value = strconv.Itoa(ver % 5)
			l[i].Ver, l[i].Value = ver, value
		default:
			l[i].Ver, l[i].Value = ver, value
		}
	}
	return l
}
