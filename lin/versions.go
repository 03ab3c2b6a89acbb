package lin

import (
	"cmp"
	"math"
	"slices"

	"towline/api"
)

// placed tells whether a call is a write with a version: it was done, though perhaps nobody was told.
func placed(o api.Op) bool { return o.Write && o.Ver > 0 }

// counts tells whether a call has its place among versions.
func counts(o api.Op) bool { return answered(o) || placed(o) }

// Versions tells whether versions explain calls: each version is one write's, a read of a version has its value, and versions rise with time.
func Versions(l ...api.Op) bool {
	writes := map[int]api.Op{}
	for _, o := range l {
		if placed(o) {
			if _, there := writes[o.Ver]; there {
				return false
			}
			writes[o.Ver] = o
		}
	}
	heard := func(o api.Op) bool {
		if o.Ver == 0 {
			return o.Value == ""
		}
		w, there := writes[o.Ver]
		return there && w.Value == o.Value && w.Began < o.Ended
	}
	wrong := func(o api.Op) bool {
		return answered(o) && !placed(o) && (o.Write || !heard(o))
	}
	return !slices.ContainsFunc(l, wrong) && rising(l)
}

// rising tells whether no call of a greater version ended ahead of one's beginning. (No more is to be asked of a write: others of its version are reads, and it began ahead of their ends.)
func rising(l []api.Op) bool {
	// From the greatest version down: the least end there is, and the least one of greater versions alone.
	least, greater := math.MaxInt, math.MaxInt
	ver := -1
	for _, i := range slices.Backward(By(l...)) {
		o := l[i]
		if o.Ver != ver {
			ver, greater = o.Ver, least
		}
		if o.Began > greater {
			return false
		}
		if answered(o) {
			least = min(least, o.Ended)
		}
	}
	return true
}

// By is calls in the order of their versions: of each version its write, then its reads, by when they began.
func By(l ...api.Op) []int {
	var row []int
	for i, o := range l {
		if counts(o) {
			row = append(row, i)
		}
	}
	slices.SortFunc(row, func(i, j int) int {
		a, b := l[i], l[j]
		return cmp.Or(cmp.Compare(a.Ver, b.Ver), cmp.Compare(rank(a), rank(b)), cmp.Compare(a.Began, b.Began), cmp.Compare(i, j))
	})
	return row
}

// rank puts writes ahead of reads.
func rank(o api.Op) int {
	if o.Write {
		return 0
	}
	return 1
}
