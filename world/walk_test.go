package world_test

import (
	"fmt"
	"math/rand/v2"
	"slices"
	"testing"

	"towline/api"
	"towline/world"
)

// maker makes steps that do something in a world, mostly.
type maker struct {
	*rand.Rand
	*world.World
}

// first is a chain that may be.
func first(r *rand.Rand) []api.Member {
	var l []api.Member
	for _, i := range r.Perm(nodes)[:1+r.IntN(nodes)] {
		l = append(l, api.Member{Node: i, Site: r.IntN(api.MaxSites)})
	}
	return l
}

// mood is how often what happens, of a thousand; what is left is that messages come.
type mood struct {
	kind, often int
}

// several is that some messages come, in order.
const several = 0

var moods = [][]mood{
	{ // all goes well, nearly
		{several, 60}, {api.SLose, 5}, {api.SDouble, 10}, {api.STick, 120}, {api.SWrite, 70}, {api.SRead, 70}, {api.SAgain, 20}, {api.SFresh, 5},
		{api.SReport, 3}, {api.SJoin, 7}, {api.SDrop, 3}, {api.SCrash, 2}, {api.SStart, 3},
	},
	{ // much is lost
		{several, 20}, {api.SLose, 60}, {api.SDouble, 60}, {api.SWall, 10}, {api.STick, 150}, {api.SWrite, 50}, {api.SRead, 60}, {api.SAgain, 40},
		{api.SFresh, 5}, {api.SReport, 10}, {api.SJoin, 15}, {api.SDrop, 5}, {api.SCrash, 5}, {api.SStart, 10},
	},
	{ // the power goes
		{several, 40}, {api.SLose, 10}, {api.SDouble, 30}, {api.SWall, 3}, {api.STick, 150}, {api.SWrite, 60}, {api.SRead, 40}, {api.SAgain, 25},
		{api.SFresh, 2}, {api.SReport, 5}, {api.SJoin, 10}, {api.SDrop, 5}, {api.SCrash, 10}, {api.SArm, 40}, {api.SStart, 90},
	},
}

func (x maker) pick(l []mood) int {
	n := x.IntN(1000)
	for _, m := range l {
		if n < m.often {
			return m.kind
		}
		n -= m.often
	}
	return api.STake
}

// next is a step by a mood.
func (x maker) next(l []mood) api.Step { return x.any(x.pick(l)) }

// newest is the chain of the greatest epoch that a master knows of.
func (x maker) newest() api.Chain {
	var c api.Chain
	for i := range api.Masters {
		if m := x.Master(i); m != nil && m.Chain().Epoch > c.Epoch {
			c = m.Chain()
		}
	}
	return c
}

func (x maker) key() api.Key { return key(string(rune('a' + x.IntN(4)))) }

func (x maker) value() string { return fmt.Sprint("v", x.Time()) }

// any is a step of a kind, of such as do something, mostly.
func (x maker) any(kind int) api.Step {
	s := api.Step{Kind: kind}
	if kind == several {
		s.Kind = api.STake
	}
	switch s.Kind {
	case api.STake, api.SLose, api.SDouble:
		l := x.Net().Busy()
		if len(l) == 0 {
			return api.Step{Kind: api.STick, From: firstMaster + x.IntN(api.Masters), Timeout: x.IntN(8)}
		}
		at := l[0]
		if kind != several {
			at = l[x.IntN(len(l))]
		}
		s.From, s.To = at.From, at.To
		if kind != several && x.IntN(4) == 0 {
			s.N = x.IntN(x.Net().Len(at))
		}
	case api.SWall:
		if x.IntN(2) == 0 {
			s.N = x.IntN(1 << 13)
		}
	case api.STick, api.SCrash, api.SStart, api.SArm:
		s.From, s.Timeout = x.IntN(firstClient), x.IntN(8)
		if kind == api.STick && x.IntN(3) == 0 {
			s.From, s.Timeout = firstMaster, 0
		}
		if down := x.down(); kind == api.SStart && len(down) > 0 && x.IntN(2) == 0 {
			s.From = down[x.IntN(len(down))]
		}
		s.N = x.IntN(60)
		if kind == api.SArm {
			s.N, s.To = 1+x.IntN(90), x.IntN(40)-5
		}
	case api.SReport:
		s.From, s.Cmd = x.IntN(nodes), x.command()
	case api.SJoin:
		s.From, s.To, s.N = x.IntN(nodes), x.IntN(api.MaxSites), max(1, x.newest().Epoch)
	default:
		s.From, s.To = x.client(kind), x.IntN(nodes)
		if c := x.newest(); x.IntN(2) == 0 && len(c.Members) > 0 {
			s.To = c.Members[0].Node
		}
		s.Key, s.Value = x.key(), x.value()
		if kind == api.SRead {
			s.Value, s.Mode, s.Bound = "", x.IntN(3), x.IntN(3)
		}
	}
	return s
}

// down is who does not run.
func (x maker) down() []int {
	var l []int
	for place := range firstClient {
		if x.Node(place) == nil && x.Master(place-firstMaster) == nil {
			l = append(l, place)
		}
	}
	return l
}

// client is one that has a call on its way, or has none, as a step asks for, if there is one.
func (x maker) client(kind int) int {
	l := x.Perm(api.MaxClients)
	at := slices.IndexFunc(l, func(i int) bool { return x.Client(i).Busy() == (kind == api.SAgain || kind == api.SDrop) })
	return l[max(at, 0)]
}

func (x maker) command() api.Command {
	c := api.Command{Kind: 1 + x.IntN(5), Epoch: max(1, x.newest().Epoch-x.IntN(5)/4)}
	if c.Kind == api.CSite || c.Kind == api.CJoin {
		c.Site = x.IntN(api.MaxSites)
	}
	if c.Kind != api.CSite {
		c.Node = x.IntN(nodes)
	}
	return c
}

// some lets up to so many messages come, in order.
func (x *watch) some(most int) {
	x.Helper()
	for range most {
		l := x.Net().Busy()
		if len(l) == 0 {
			return
		}
		x.do(api.Step{Kind: api.STake, From: l[0].From, To: l[0].To})
	}
}

// live lets things happen.
func (x *watch) live(n int) {
	x.Helper()
	l := moods[x.IntN(len(moods))]
	for i := range n {
		if i%200 == 0 {
			l = moods[x.IntN(len(moods))]
		}
		kind := x.pick(l)
		if kind == several {
			x.some(20)
			continue
		}
		s := x.any(kind)
		e := x.do(s)
		x.counts[fmt.Sprint("kind ", s.Kind, " ", e == api.OK)]++
		if s.Kind == api.SArm && e == api.OK {
			x.armed[s.From] = true
		}
		if s.Kind == api.SCrash && e == api.OK {
			x.armed[s.From] = false
		}
	}
}

// P1 to P5, on random scripts of steps: whatever happens, what calls are told is explained; when all is calm, all is well.
func TestWalk(t *testing.T) {
	t.Parallel()
	counts := map[string]int{}
	for seed := range uint64(40) {
		r := rand.New(rand.NewPCG(seed, 22))
		x := newWatch(t, r, counts, first(r)...)
		for range 3 {
			x.live(400)
			x.judged()
			x.calm()
		}
		for _, c := range x.Calls() {
			x.counts[fmt.Sprint("call ", c.Write, " ", c.Mode, " ", c.Ended > 0, " ", int(c.Err))]++
		}
	}
	for what, least := range map[string]int{
		"calm": 120, "finished": 200, "ordered": 700, "opened true": 200, "opened false": 40, "error 50": 1000, "error 150": 1000, "error 153": 200,
		"call true 0 true 0": 1000, "call true 0 false 0": 100, "call false 0 true 0": 1000, "call false 1 true 0": 1000, "call false 2 true 0": 1000,
	} {
		if counts[what] < least {
			t.Errorf("%s: %d times, in all %v", what, counts[what], counts)
		}
	}
}
