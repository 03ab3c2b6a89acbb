package judge

import (
	"cmp"
	"slices"

	"towline/api"
)

// ends is when a key's writes ended, rising, and of each the greatest version up to then.
type ends []api.Call

// endsOf is that of each key.
func endsOf(calls []api.Call) map[api.Key]ends {
	all := map[api.Key]ends{}
	for _, c := range calls {
		if c.Write && answered(c) {
			all[c.Key] = append(all[c.Key], c)
		}
	}
	for _, l := range all {
		slices.SortFunc(l, func(a, b api.Call) int { return cmp.Compare(a.Ended, b.Ended) })
		for i := 1; i < len(l); i++ {
			l[i].Ver = max(l[i].Ver, l[i-1].Ver)
		}
	}
	return all
}

// ahead is the greatest version that a write was answered with ahead of a time; 0, of none.
func (l ends) ahead(time int) int {
	n, _ := slices.BinarySearchFunc(l, time, func(c api.Call, time int) int { return cmp.Compare(c.Ended, time) })
	if n == 0 {
		return 0
	}
	return max(l[n-1].Ver, 0)
}

// within tells whether a version is at most so far below another one. (Between numbers of unlike signs there may be more than a number with a sign can tell.)
func within(ver, newest, bound int) bool {
	return ver >= newest || bound > 0 && uint64(newest)-uint64(ver) <= uint64(bound)
}

// Bounds tells whether each bounded read that was answered is at most as far behind as it may be.
func Bounds(calls []api.Call) bool {
	all := endsOf(calls)
	return !slices.ContainsFunc(calls, func(c api.Call) bool {
		return answered(c) && !c.Write && c.Mode == api.Bounded && !within(c.Ver, all[c.Key].ahead(c.Began), c.Bound)
	})
}
