package console

import (
	"strconv"
	"strings"

	"towline/api"
	"towline/judge"
	"towline/layout"
	"towline/plan"
	"towline/proto"
	"towline/route"
	"towline/shelf"
	"towline/trace"
)

const blank = " "

// homes is the site of each node.
var homes = api.Home{0, 0, 1, 1, 2, 2}

// ways is how far sites are from one another.
var ways = api.Ways{{0, 10, 25}, {10, 0, 20}, {25, 20, 0}}

// told is a word, and numbers behind it.
func told(word string, numbers ...int) string {
	for _, n := range numbers {
		word += blank + strconv.Itoa(n)
	}
	return word
}

// errorText is why something came to nothing, or that it did not.
func errorText(e api.Errno) string {
	if e == api.OK {
		return "ok"
	}
	return told("error", int(e))
}

// quoted is a blank, and a text in quotes.
func quoted(s string) string { return blank + `"` + s + `"` }

// chainText is a chain from its head on.
func chainText(c api.Chain) string {
	text := told("chain", c.Epoch)
	for _, m := range c.Members {
		text += blank + strconv.Itoa(m.Node) + "@" + strconv.Itoa(m.Site)
		if m.Fresh {
			text += "*"
		}
	}
	return text
}

func bit(b bool) int {
	if b {
		return 1
	}
	return 0
}

// show is what a node is.
func (s *stage) show(node int) string {
	n := s.world.Node(node).State()
	if n == nil {
		return errorText(api.ErrDown)
	}
	kept := n.Shelf()
	last, _ := kept.Last()
	writes, reads := n.Waiting()
	return told("node", node, n.Era(), layout.Place(n.Chain(), node), bit(n.Whole()), kept.Low(), kept.Commit(), last, writes, reads)
}

// of is what a node has of a key.
func (s *stage) of(node int, k api.Key) string {
	n := s.world.Node(node).State()
	if n == nil {
		return errorText(api.ErrDown)
	}
	kept := n.Shelf()
	clean := kept.Clean(k)
	return told("of "+shelf.Name(k), clean.Ver, kept.Top(k).Ver) + quoted(clean.Value)
}

// calls is how a client's calls went.
func (s *stage) calls(client int) string {
	c := s.world.Client(client)
	if c == nil {
		return errorText(api.ErrArg)
	}
	var text strings.Builder
	text.WriteString("calls")
	for _, x := range c.Calls() {
		word := "; read "
		if x.Write {
			word = "; write "
		}
		text.WriteString(told(word+shelf.Name(x.Key), x.Began, x.Ended, int(x.Err), x.Ver) + quoted(x.Value))
	}
	return text.String()
}

// judged is whether all that calls were told can be explained by what was seen committed.
func (s *stage) judged() string {
	calls, recs := s.world.Calls(), s.row()
	text := told("judge", len(recs))
	for _, so := range []bool{judge.Strong(calls, recs), judge.Values(calls, recs), judge.Bounds(calls), judge.Sessions(calls)} {
		text += blank + strconv.FormatBool(so)
	}
	return text
}

// net is what is on its way.
func (s *stage) net() string {
	n := s.world.Net()
	var text strings.Builder
	text.WriteString(told("net", n.Lost()))
	for _, l := range n.Busy() {
		text.WriteString(blank + strconv.Itoa(l.From) + ">" + strconv.Itoa(l.To) + ":" + strconv.Itoa(n.Len(l)))
	}
	return text.String()
}

// peek is a message that is on its way.
func (s *stage) peek(l api.Link, i int) string {
	b, e := s.world.Net().Peek(l, i)
	if e != api.OK {
		return errorText(e)
	}
	m, e := proto.Get(b)
	if e != api.OK {
		return errorText(e)
	}
	text, e := trace.Text(m)
	if e != api.OK {
		return errorText(e)
	}
	return text
}

// planned is what masters are to be told, so that sites have what is wished.
func (s *stage) planned(w api.Wish) string {
	commands, after, e := plan.All(s.newest(), s.alive(), homes, w)
	if e != api.OK {
		return errorText(e)
	}
	text := "plan"
	for _, c := range commands {
		word := " join"
		if c.Kind == api.CDead {
			word = " dead"
		}
		text += told(word, c.Node, c.Site, c.Epoch) + ";"
	}
	return text + blank + chainText(after)
}

// near is whom one asks from a site, and how far a write goes from there.
func (s *stage) near(site int) string {
	c := s.newest()
	nodes, e := route.Near(c, ways, site)
	if e != api.OK {
		return errorText(e)
	}
	// What Near takes, Write takes, too.
	way, _ := route.Write(c, ways, site)
	return told("near", append([]int{way}, nodes...)...)
}
