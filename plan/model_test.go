package plan_test

import (
	"math/rand/v2"
	"slices"

	"towline/api"
	"towline/layout"
	"towline/mask"
)

// one is a member; late is one that has not all.
func one(node, site int) api.Member  { return api.Member{Node: node, Site: site} }
func late(node, site int) api.Member { return api.Member{Node: node, Site: site, Fresh: true} }

// chain is one of members, whether it may be or not.
func chain(epoch int, l ...api.Member) api.Chain { return api.Chain{Epoch: epoch, Members: l} }

// same is whether two chains are, by the test's own eyes.
func same(a, b api.Chain) bool { return a.Epoch == b.Epoch && slices.Equal(a.Members, b.Members) }

// dead and joins are commands.
func dead(node, epoch int) api.Command { return api.Command{Kind: 1, Node: node, Epoch: epoch} }
func joins(node, site, epoch int) api.Command {
	return api.Command{Kind: 2, Node: node, Site: site, Epoch: epoch}
}

// some is a chain that may be, by chance.
func some(r *rand.Rand) api.Chain {
	c := api.Chain{Epoch: []int{1, 2, 77, 1<<40 - 3, 1<<40 - 1, 1 << 40}[max(0, r.IntN(18)-12)]}
	site := r.IntN(3)
	for i, node := range r.Perm(6)[:1+r.IntN(6)] {
		c.Members = append(c.Members, api.Member{Node: node, Site: site, Fresh: i > 0 && r.IntN(4) == 0})
		site = min(2, site+r.IntN(3)/2)
	}
	return c
}

// someWish is homes and wishes by chance.
func someWish(r *rand.Rand) (h api.Home, w api.Wish) {
	for i := range h {
		h[i] = r.IntN(3)
	}
	for i := range w {
		w[i] = r.IntN([]int{2, 4, 7}[r.IntN(3)])
	}
	return h, w
}

// count is how many members of a site a chain has.
func count(c api.Chain, site int) int {
	n := 0
	for _, m := range c.Members {
		if m.Site == site {
			n++
		}
	}
	return n
}

// next is the chapter's words of what is to be told, one behind the other.
func next(c api.Chain, alive mask.Set, h api.Home, w api.Wish) (api.Command, bool) {
	for _, m := range c.Members {
		if alive.Has(m.Node) {
			continue
		}
		if _, e := layout.Drop(c, m.Node); e == api.OK {
			return dead(m.Node, c.Epoch), true
		}
	}
	for _, m := range c.Members {
		if m.Fresh {
			return api.Command{}, false
		}
	}
	for site := range 3 {
		if count(c, site) >= w[site] {
			continue
		}
		for node := range 6 {
			there := slices.ContainsFunc(c.Members, func(m api.Member) bool { return m.Node == node })
			if !alive.Has(node) || h[node] != site || there {
				continue
			}
			if _, e := layout.Join(c, one(node, site)); e == api.OK {
				return joins(node, site, c.Epoch), true
			}
			break
		}
	}
	return api.Command{}, false
}

// ready is a chain in which all that are alive have all.
func ready(c api.Chain, alive mask.Set) api.Chain {
	c.Members = slices.Clone(c.Members)
	for i, m := range c.Members {
		if alive.Has(m.Node) {
			c.Members[i].Fresh = false
		}
	}
	return c
}
