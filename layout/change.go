package layout

import (
	"slices"

	"towline/api"
	"towline/mask"
)

// follow is members in the epoch behind a chain's.
func follow(c api.Chain, l []api.Member) (api.Chain, api.Errno) {
	return api.Chain{Epoch: c.Epoch + 1, Members: l}, api.OK
}

// last tells whether no epoch is behind a chain's.
func last(c api.Chain) bool { return c.Epoch >= api.MaxIndex }

// Drop is a chain without a node; DropSite without a site.
func Drop(c api.Chain, node int) (api.Chain, api.Errno) { return without(c, is(node)) }

// DropSite is a chain without the nodes of a site.
func DropSite(c api.Chain, site int) (api.Chain, api.Errno) {
	return without(c, func(m api.Member) bool { return m.Site == site })
}

// without is a chain without those that go; whoever is fresh goes with them where nobody that has all stands ahead of it any more.
func without(c api.Chain, goes func(api.Member) bool) (api.Chain, api.Errno) {
	if e := Check(c); e != api.OK {
		return api.Chain{}, e
	}
	if last(c) {
		return api.Chain{}, api.ErrRange
	}
	rest := slices.DeleteFunc(slices.Clone(c.Members), goes)
	head := slices.IndexFunc(rest, whole)
	switch {
	case len(rest) == len(c.Members):
		return api.Chain{}, api.ErrNode
	case head < 0:
		return api.Chain{}, api.ErrLast
	}
	return follow(c, rest[head:])
}

// behind is the place behind the last one whose site is not greater; sites never fall in a chain that may be.
func behind(c api.Chain, site int) int {
	place := slices.IndexFunc(c.Members, func(m api.Member) bool { return m.Site > site })
	if place == nobody {
		return len(c.Members)
	}
	return place
}

// Join is a chain with a node behind those of its site; it has not all.
func Join(c api.Chain, m api.Member) (api.Chain, api.Errno) {
	if e := Check(c); e != api.OK {
		return api.Chain{}, e
	}
	place := behind(c, m.Site)
	switch {
	case !isMember(m):
		return api.Chain{}, api.ErrNode
	case Nodes(c).Has(m.Node):
		return api.Chain{}, api.ErrThere
	case last(c):
		return api.Chain{}, api.ErrRange
	case place == 0:
		return api.Chain{}, api.ErrHead
	}
	m.Fresh = true
	return follow(c, slices.Insert(slices.Clone(c.Members), place, m))
}

// Again is the same chain in the next epoch, for a node that began anew.
func Again(c api.Chain, node int) (api.Chain, api.Errno) {
	if e := Check(c); e != api.OK {
		return api.Chain{}, e
	}
	switch {
	case !Nodes(c).Has(node):
		return api.Chain{}, api.ErrNode
	case last(c):
		return api.Chain{}, api.ErrRange
	}
	return follow(c, slices.Clone(c.Members))
}

// Ready is a chain in which a node has all; the epoch stays.
func Ready(c api.Chain, node int) (api.Chain, api.Errno) {
	if e := Check(c); e != api.OK {
		return api.Chain{}, e
	}
	place := Place(c, node)
	if place == nobody || whole(c.Members[place]) {
		return api.Chain{}, api.ErrNode
	}
	c.Members = slices.Clone(c.Members)
	c.Members[place].Fresh = false
	return c, api.OK
}

// row is the nodes of a set in a chain's order.
func row(c api.Chain, of mask.Set) []int {
	var l []int
	for _, m := range c.Members {
		if of.Has(m.Node) {
			l = append(l, m.Node)
		}
	}
	return l
}

// Follows tells whether a chain may come of another one: whoever has all in it was there, and those that stay keep their order.
func Follows(a, b api.Chain) bool {
	if Check(a) != api.OK || Check(b) != api.OK || b.Epoch <= a.Epoch {
		return false
	}
	// b's head has all: if it was there, somebody stays.
	stay := Nodes(a).And(Nodes(b))
	return Whole(b).But(Nodes(a)) == 0 && slices.Equal(row(a, stay), row(b, stay))
}
