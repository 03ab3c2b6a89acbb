package lin

import (
	"cmp"
	"math"
	"slices"

	"towline/api"
)

// search looks for an order, call by call.
type search struct {
	past
	reads  []int              // those that were answered: the others may be left out
	writes []int              // by rising ends
	blind  map[point]struct{} // points that were come to: no order goes on from there
	row    []int
}

func newSearch(l []api.Op) *search {
	s := &search{past: pastOf(l), blind: map[point]struct{}{}}
	for i, o := range l {
		switch {
		case o.Write:
			s.writes = append(s.writes, i)
		case answered(o):
			s.reads = append(s.reads, i)
		}
	}
	slices.SortFunc(s.writes, func(i, j int) int {
		return cmp.Or(cmp.Compare(end(l[i]), end(l[j])), cmp.Compare(i, j))
	})
	return s
}

// end is when a call ended: one that was not answered may be done at any time behind its beginning.
func end(o api.Op) int {
	if !answered(o) {
		return math.MaxInt
	}
	return o.Ended
}

// found tells whether an order goes on from a point; row is that order then.
func (s *search) found(p point) bool {
	if s.over(p) {
		return true
	}
	if _, there := s.blind[p]; there {
		return false
	}
	s.blind[p] = struct{}{}
	for _, i := range s.tries(p) {
		s.row = append(s.row, i)
		if s.found(s.behind(p, i)) {
			return true
		}
		s.row = s.row[:len(s.row)-1]
	}
	return false
}

// tries is few of the calls that are open, since 24 calls have too many orders: if an order goes on from a point, one goes on by one of these.
func (s *search) tries(p point) []int {
	open := func(i int) bool { return s.open(p, i) }
	// A read that is open may stand here at once: it changes nothing for the others.
	if at := slices.IndexFunc(s.reads, open); at >= 0 {
		return []int{s.reads[at]}
	}
	// So a write stands here, and a read right behind it, or none.
	return append(s.readNext(p), s.unread(p)...)
}

// readNext is the open writes right behind which a read may stand. Of those of one value the one that ends first will do: where an order has another one of them here, both can change places.
func (s *search) readNext(p point) []int {
	var l []int
	for _, i := range s.reads {
		same := func(j int) bool { return s.calls[j].Value == s.calls[i].Value && s.open(p, j) }
		at := slices.IndexFunc(s.writes, same)
		if at >= 0 && s.open(s.behind(p, s.writes[at]), i) {
			l = append(l, s.writes[at])
		}
	}
	return l
}

// unread is the open writes that may have to stand here though nobody reads them. One that was not answered may be left out. Another one may stand later, up to where the next write that is read, or a read of it, began behind its end; with it stand there all that ended ahead of that beginning, and may stand by rising ends. So it is the first one that is left, or the second one, if the first is the write that is read.
func (s *search) unread(p point) []int {
	left := s.must.But(p.done)
	gone := func(i int) bool { return !left.Has(i) }
	closed := func(i int) bool { return !s.open(p, i) }
	l := slices.DeleteFunc(slices.Clone(s.writes), gone)
	return slices.DeleteFunc(l[:min(len(l), 2)], closed)
}
