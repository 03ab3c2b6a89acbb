package route_test

import (
	"math"
	"math/rand/v2"

	"towline/api"
)

// one is a member; late is one that has not all.
func one(node, site int) api.Member  { return api.Member{Node: node, Site: site} }
func late(node, site int) api.Member { return api.Member{Node: node, Site: site, Fresh: true} }

// chain is one of members, whether it may be or not.
func chain(l ...api.Member) api.Chain { return api.Chain{Epoch: 1, Members: l} }

// apart is ways: between sites 0 and 1, 1 and 2, 0 and 2.
func apart(a, b, c int) api.Ways { return api.Ways{{0, a, c}, {a, 0, b}, {c, b, 0}} }

// broken is chains that can't be.
func broken() []api.Chain {
	return []api.Chain{
		{}, {Epoch: 1}, {Epoch: 0, Members: []api.Member{one(0, 0)}}, {Epoch: 1<<40 + 1, Members: []api.Member{one(0, 0)}},
		chain(late(0, 0)), chain(late(0, 0), one(1, 0)), chain(one(0, 1), one(1, 0)), chain(one(0, 0), one(0, 1)), chain(one(6, 0)), chain(one(0, 3)), chain(one(0, -1)), chain(one(-1, 0)),
	}
}

// wrong is what is no ways.
func wrong() []api.Ways {
	var out []api.Ways
	for a := range 3 {
		for b := range 3 {
			for _, n := range []int{math.MinInt, -1, 1001, math.MaxInt, 4} {
				w := apart(5, 9, 20)
				w[a][b] = n // alone: there and back are not the same, or a site is apart from itself
				out = append(out, w)
				if n != 4 {
					w[b][a] = n
					out = append(out, w)
				}
			}
		}
	}
	return out
}

// notSites is numbers that are no site.
var notSites = []int{math.MinInt, -1, 3, 4, 64, math.MaxInt}

// some is a chain that may be, by chance.
func some(r *rand.Rand) api.Chain {
	c := api.Chain{Epoch: 1 + r.IntN(9)}
	site := r.IntN(2)
	for i, node := range r.Perm(6)[:1+r.IntN(6)] {
		c.Members = append(c.Members, api.Member{Node: node, Site: site, Fresh: i > 0 && r.IntN(3) == 0})
		site = min(2, site+r.IntN(3)/2)
	}
	return c
}

// someWays is ways by chance, some of them the same.
func someWays(r *rand.Rand) api.Ways {
	most := []int{2, 5, 30, 1001}[r.IntN(4)]
	return apart(r.IntN(most), r.IntN(most), r.IntN(most))
}

// near is whom one reads at, picked one by one: the first one of those that nobody left is ahead of.
func near(c api.Chain, w api.Ways, from int) []int {
	var out []int
	taken := map[int]int{}
	for range c.Members {
		best := -1
		for i, m := range c.Members {
			if taken[i] > 0 {
				continue
			}
			if best < 0 {
				best = i
				continue
			}
			b := c.Members[best]
			if b.Fresh && !m.Fresh || b.Fresh == m.Fresh && w[from][m.Site] < w[from][b.Site] {
				best = i
			}
		}
		taken[best]++
		out = append(out, c.Members[best].Node)
	}
	return out
}

// write is a write's way, leg by leg.
func write(l []api.Member, w api.Ways, from int) int {
	way := w[from][l[0].Site] + w[l[0].Site][from]
	for i := 1; i < len(l); i++ {
		way += w[l[i-1].Site][l[i].Site] + w[l[i].Site][l[i-1].Site]
	}
	return way
}
