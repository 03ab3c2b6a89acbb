package layout_test

import (
	"math"
	"math/rand/v2"

	"towline/api"
)

// one is a member; late is one that has not all.
func one(node, site int) api.Member  { return api.Member{Node: node, Site: site} }
func late(node, site int) api.Member { return api.Member{Node: node, Site: site, Fresh: true} }

// chain is one of members, whether it may be or not.
func chain(epoch int, l ...api.Member) api.Chain { return api.Chain{Epoch: epoch, Members: l} }

// odd is numbers that are no node and no site, and edges of those that are.
var odd = []int{math.MinInt, -64, -1, 0, 1, 2, 3, 5, 6, 7, 63, 64, math.MaxInt}

// mayBe is the chapter's words of a chain, one by one.
func mayBe(c api.Chain) bool {
	if c.Epoch < 1 || c.Epoch > 1<<40 || len(c.Members) == 0 {
		return false
	}
	for i, m := range c.Members {
		if m.Node < 0 || m.Node > 5 || m.Site < 0 || m.Site > 2 || i == 0 && m.Fresh {
			return false
		}
		for _, other := range c.Members[:i] {
			if other.Node == m.Node || other.Site > m.Site {
				return false
			}
		}
	}
	return true
}

// chains is all chains of at most three members, of all sites and of nodes up to one, that may be.
func chains(epoch, nodes int) []api.Chain {
	var out []api.Chain
	var grow func(l []api.Member)
	grow = func(l []api.Member) {
		c := api.Chain{Epoch: epoch, Members: append([]api.Member(nil), l...)}
		if len(l) > 0 && !mayBe(c) {
			return
		}
		if len(l) > 0 {
			out = append(out, c)
		}
		if len(l) == 3 {
			return
		}
		for node := range nodes {
			for site := range 3 {
				grow(append(l, one(node, site)))
				grow(append(l, late(node, site)))
			}
		}
	}
	grow(nil)
	return out
}

// broken is chains that can't be.
func broken() []api.Chain {
	out := []api.Chain{
		{}, {Epoch: 1}, chain(0, one(0, 0)), chain(-1, one(0, 0)), chain(1<<40+1, one(0, 0)), chain(math.MinInt, one(0, 0)), chain(math.MaxInt, one(0, 0)),
		chain(1, late(0, 0)), chain(1, late(0, 0), one(1, 0)),
		chain(1, one(0, 0), one(0, 0)), chain(1, one(0, 0), one(1, 0), late(0, 1)),
		chain(1, one(0, 1), one(1, 0)), chain(1, one(0, 0), one(1, 2), one(2, 1)), chain(1, one(0, 0), one(1, 2), one(2, 0)),
		chain(1, one(0, 0), one(1, 0), one(2, 0), one(3, 0), one(4, 0), one(5, 0), one(0, 0)),
		chain(1, make([]api.Member, 1<<16)...),
	}
	for _, n := range odd {
		if n < 0 || n > 5 {
			out = append(out, chain(1, one(n, 0)), chain(1, one(0, 0), one(n, 0)), chain(1, one(0, 0), late(n, 0)))
		}
		if n < 0 || n > 2 {
			out = append(out, chain(1, one(0, n)), chain(1, one(0, 0), one(1, n)), chain(1, one(0, 0), late(1, n)))
		}
	}
	return out
}

// some is a chain that may be, of up to six members.
func some(r *rand.Rand) api.Chain {
	c := api.Chain{Epoch: 1 + r.IntN(5)}
	site := 0
	for _, node := range r.Perm(6)[:1+r.IntN(6)] {
		site = min(2, site+r.IntN(2))
		c.Members = append(c.Members, api.Member{Node: node, Site: site, Fresh: len(c.Members) > 0 && r.IntN(3) == 0})
	}
	return c
}

// dropped is the words of Drop and DropSite: who goes is asked of each member.
func dropped(c api.Chain, goes func(m api.Member) bool) (api.Chain, api.Errno) {
	if !mayBe(c) {
		return api.Chain{}, api.ErrChain
	}
	if c.Epoch == 1<<40 {
		return api.Chain{}, api.ErrRange
	}
	out := api.Chain{Epoch: c.Epoch + 1}
	gone := false
	for _, m := range c.Members {
		if goes(m) {
			gone = true
		} else if len(out.Members) > 0 || !m.Fresh {
			out.Members = append(out.Members, m)
		}
	}
	switch {
	case !gone:
		return api.Chain{}, api.ErrNode
	case len(out.Members) == 0:
		return api.Chain{}, api.ErrLast
	}
	return out, api.OK
}

// joined is the words of Join.
func joined(c api.Chain, m api.Member) (api.Chain, api.Errno) {
	if !mayBe(c) {
		return api.Chain{}, api.ErrChain
	}
	if m.Node < 0 || m.Node > 5 || m.Site < 0 || m.Site > 2 {
		return api.Chain{}, api.ErrNode
	}
	behind := -1
	for i, other := range c.Members {
		if other.Node == m.Node {
			return api.Chain{}, api.ErrThere
		}
		if other.Site <= m.Site {
			behind = i
		}
	}
	switch {
	case c.Epoch == 1<<40:
		return api.Chain{}, api.ErrRange
	case behind < 0:
		return api.Chain{}, api.ErrHead
	}
	out := api.Chain{Epoch: c.Epoch + 1}
	for i, other := range c.Members {
		out.Members = append(out.Members, other)
		if i == behind {
			out.Members = append(out.Members, late(m.Node, m.Site))
		}
	}
	return out, api.OK
}

// follows is the words of Follows.
func follows(a, b api.Chain) bool {
	if !mayBe(a) || !mayBe(b) || b.Epoch <= a.Epoch {
		return false
	}
	place := map[int]int{}
	for i, m := range a.Members {
		place[m.Node] = i + 1
	}
	before := 0
	for _, m := range b.Members {
		at := place[m.Node]
		if at == 0 && !m.Fresh || at > 0 && at < before {
			return false
		}
		before = max(before, at)
	}
	return before > 0
}
