package console_test

import (
	"fmt"
	"math/rand/v2"
	"strconv"
	"strings"

	"towline/api"
	"towline/judge"
	"towline/layout"
	"towline/mask"
	"towline/plan"
	"towline/proto"
	"towline/route"
	"towline/shelf"
	"towline/trace"
	"towline/world"
)

func key(name string) api.Key {
	k, e := shelf.Key(name)
	if e != api.OK {
		panic(name)
	}
	return k
}

// plain is a console by the chapter's words, which a test looks into.
type plain struct {
	*world.World
	seen   map[int]api.Record
	text   string
	report []string
}

func newPlain(first []api.Member) *plain {
	w, e := world.New([]byte("0123456789abcdef"), first...)
	if e != api.OK {
		panic(first)
	}
	p := &plain{World: w, seen: map[int]api.Record{}}
	for _, m := range first {
		p.text += fmt.Sprintf("member %d %d\n", m.Node, m.Site)
	}
	return p
}

// do is a step, and a look at all nodes behind it.
func (p *plain) do(s api.Step) api.Errno {
	e := p.Step(s)
	for i := range 6 {
		if n := p.Node(i); n != nil && n.State() != nil {
			s := n.State().Shelf()
			l, _ := s.Behind(s.Low(), 24)
			for _, r := range l {
				if r.Index <= s.Commit() {
					p.seen[r.Index] = r
				}
			}
		}
	}
	return e
}

// line plays one more line.
func (p *plain) line(s string) string {
	p.text += s + "\n"
	told := p.tell(strings.Split(s, " "))
	p.report = append(p.report, told)
	return told
}

// stepOf is a step's line as a step, or the zero one.
func stepOf(w []string, n []int) api.Step {
	switch w[0] {
	case "take":
		return api.Step{Kind: api.STake, From: n[0], To: n[1], N: n[2]}
	case "lose":
		return api.Step{Kind: api.SLose, From: n[0], To: n[1], N: n[2]}
	case "double":
		return api.Step{Kind: api.SDouble, From: n[0], To: n[1], N: n[2]}
	case "wall":
		return api.Step{Kind: api.SWall, N: n[0]}
	case "tick":
		return api.Step{Kind: api.STick, From: n[0], Timeout: n[1]}
	case "start":
		return api.Step{Kind: api.SStart, From: n[0], Timeout: n[1]}
	case "crash":
		return api.Step{Kind: api.SCrash, From: n[0], N: n[1]}
	case "arm":
		return api.Step{Kind: api.SArm, From: n[0], N: n[1], To: n[2]}
	case "write":
		return api.Step{Kind: api.SWrite, From: n[0], To: n[1], Key: key(w[3]), Value: w[4]}
	case "read":
		return api.Step{Kind: api.SRead, From: n[0], To: n[1], Key: key(w[3]), Mode: n[3], Bound: n[4]}
	case "again":
		return api.Step{Kind: api.SAgain, From: n[0], To: n[1]}
	case "drop":
		return api.Step{Kind: api.SDrop, From: n[0]}
	case "fresh":
		return api.Step{Kind: api.SFresh, From: n[0]}
	case "join":
		return api.Step{Kind: api.SJoin, From: n[0], To: n[1], N: n[2]}
	case "dead":
		return api.Step{Kind: api.SReport, From: n[0], Cmd: api.Command{Kind: api.CDead, Node: n[1], Epoch: n[2]}}
	case "anew":
		return api.Step{Kind: api.SReport, From: n[0], Cmd: api.Command{Kind: api.CAgain, Node: n[1], Epoch: n[2]}}
	case "site":
		return api.Step{Kind: api.SReport, From: n[0], Cmd: api.Command{Kind: api.CSite, Site: n[1], Epoch: n[2]}}
	}
	return api.Step{}
}

func errorText(e api.Errno) string {
	if e == 0 {
		return "ok"
	}
	return fmt.Sprintf("error %d", int(e))
}

// tell is what a line tells; words that are no numbers count as 0.
func (p *plain) tell(w []string) string {
	n := make([]int, len(w)-1)
	for i := range n {
		n[i], _ = strconv.Atoi(w[1+i])
	}
	if s := stepOf(w, n); s != (api.Step{}) {
		return errorText(p.do(s))
	}
	switch w[0] {
	case "carry":
		if n[0] < 0 || n[0] > 1000 {
			return "error 1"
		}
		return fmt.Sprintf("carried %d", p.carry(n[0]))
	case "lead":
		return p.lead(n[0])
	case "show":
		return p.show(n[0])
	case "calls":
		return p.calls(n[0])
	case "of":
		return p.of(n[0], w[2])
	case "chain":
		return chainText(p.newest())
	case "judge":
		l := p.log()
		return fmt.Sprintf("judge %d %v %v %v %v", len(l), judge.Strong(p.Calls(), l), judge.Values(p.Calls(), l), judge.Bounds(p.Calls()), judge.Sessions(p.Calls()))
	case "net":
		s := fmt.Sprintf("net %d", p.Net().Lost())
		for _, l := range p.Net().Busy() {
			s += fmt.Sprintf(" %d>%d:%d", l.From, l.To, p.Net().Len(l))
		}
		return s
	case "peek":
		b, e := p.Net().Peek(api.Link{From: n[0], To: n[1]}, n[2])
		if e != api.OK {
			return errorText(e)
		}
		m, _ := proto.Get(b)
		s, _ := trace.Text(m)
		return s
	case "plan":
		return p.plan(n)
	case "near":
		return p.near(n[0])
	}
	panic(w[0])
}

func (p *plain) carry(most int) int {
	many := 0
	for many < most && len(p.Net().Busy()) > 0 {
		l := p.Net().Busy()[0]
		p.do(api.Step{Kind: api.STake, From: l.From, To: l.To, N: 0})
		many++
	}
	return many
}

// leads tells whether there is such a master, and it does.
func (p *plain) leads(i int) bool { return p.Master(i) != nil && p.Master(i).View().Role == api.Leads }

func (p *plain) lead(i int) string {
	for time := 1; time <= 12; time++ {
		led := p.leads(i)
		if e := p.do(api.Step{Kind: api.STick, From: 6 + i}); e != api.OK {
			return errorText(e)
		}
		p.carry(200)
		if led {
			break
		}
	}
	if p.Master(i) == nil {
		return "lead 0 0 0 0"
	}
	v := p.Master(i).View()
	return fmt.Sprintf("lead %d %d %d %d", v.Role, v.Hard.Term, v.Commit, v.Len)
}

// runs tells whether a node does, and does not stand still.
func (p *plain) runs(i int) bool { return p.Node(i) != nil && p.Node(i).State() != nil }

func (p *plain) show(i int) string {
	if !p.runs(i) {
		return "error 50"
	}
	n := p.Node(i).State()
	place, whole := -1, 0
	for at, m := range n.Chain().Members {
		if m.Node == i {
			place = at
		}
	}
	if n.Whole() {
		whole = 1
	}
	s := n.Shelf()
	last, _ := s.Last()
	writes, reads := n.Waiting()
	return fmt.Sprint("node ", i, n.Era(), place, whole, s.Table().Index, s.Commit(), last, writes, reads)
}

func (p *plain) calls(i int) string {
	if i < 0 || i > 3 {
		return "error 1"
	}
	s := "calls"
	for _, c := range p.Client(i).Calls() {
		kind := "read"
		if c.Write {
			kind = "write"
		}
		s += fmt.Sprintf("; %s %s %d %d %d %d \"%s\"", kind, shelf.Name(c.Key), c.Began, c.Ended, int(c.Err), c.Ver, c.Value)
	}
	return s
}

func (p *plain) of(i int, name string) string {
	if !p.runs(i) {
		return "error 50"
	}
	s := p.Node(i).State().Shelf()
	return fmt.Sprintf("of %s %d %d \"%s\"", name, s.Clean(key(name)).Ver, s.Top(key(name)).Ver, s.Clean(key(name)).Value)
}

func chainText(c api.Chain) string {
	s := fmt.Sprintf("chain %d", c.Epoch)
	for _, m := range c.Members {
		s += fmt.Sprintf(" %d@%d", m.Node, m.Site)
		if m.Fresh {
			s += "*"
		}
	}
	return s
}

func (p *plain) newest() api.Chain {
	var c api.Chain
	for i := range 3 {
		if m := p.Master(i); m != nil && m.Chain().Epoch > c.Epoch {
			c = m.Chain()
		}
	}
	return c
}

// log is what was seen, from 1 on.
func (p *plain) log() []api.Record {
	var l []api.Record
	for {
		r, there := p.seen[len(l)+1]
		if !there {
			return l
		}
		l = append(l, r)
	}
}

func (p *plain) plan(n []int) string {
	var alive mask.Set
	for i := range 6 {
		if p.runs(i) {
			alive |= 1 << i
		}
	}
	l, after, e := plan.All(p.newest(), alive, api.Home{0, 0, 1, 1, 2, 2}, api.Wish{n[0], n[1], n[2]})
	if e != api.OK {
		return errorText(e)
	}
	s := "plan "
	for _, c := range l {
		s += fmt.Sprintf("%s %d %d %d; ", map[int]string{api.CDead: "dead", api.CJoin: "join"}[c.Kind], c.Node, c.Site, c.Epoch)
	}
	return s + chainText(after)
}

func (p *plain) near(site int) string {
	var w api.Ways
	for _, x := range [][3]int{{0, 1, 10}, {1, 2, 20}, {0, 2, 25}} {
		w[x[0]][x[1]], w[x[1]][x[0]] = x[2], x[2]
	}
	l, e := route.Near(p.newest(), w, site)
	if e != api.OK {
		return errorText(e)
	}
	way, _ := route.Write(p.newest(), w, site)
	told := "near"
	for _, i := range append([]int{way}, l...) {
		told += fmt.Sprintf(" %d", i)
	}
	return told
}

// maker makes lines that do something, mostly.
type maker struct {
	*rand.Rand
	*plain
}

// first is a chain that may be.
func first(r *rand.Rand) []api.Member {
	var l []api.Member
	for _, i := range r.Perm(6)[:1+r.IntN(6)] {
		l = append(l, api.Member{Node: i, Site: r.IntN(3)})
	}
	return l
}

// mood is how often which words come, of all.
type mood map[string]int

// moods is: all goes well; much is lost; the power goes; much is asked.
var moods = []mood{
	{"carry": 30, "take": 20, "tick": 15, "write": 20, "read": 20, "again": 8, "fresh": 1, "join": 3, "dead": 1, "lead": 2, "judge": 2, "double": 3},
	{"take": 70, "carry": 6, "lose": 15, "double": 10, "wall": 2, "tick": 25, "write": 15, "read": 15, "again": 12, "drop": 1, "join": 3, "dead": 2, "site": 1, "anew": 1, "lead": 2, "judge": 1, "crash": 1, "start": 3},
	{"take": 60, "carry": 8, "lose": 3, "double": 5, "tick": 25, "write": 20, "read": 15, "again": 10, "drop": 1, "join": 3, "crash": 3, "arm": 8, "start": 20, "lead": 3, "judge": 1, "wall": 1, "dead": 1},
	{"take": 20, "carry": 5, "tick": 5, "write": 5, "read": 5, "show": 6, "calls": 4, "of": 6, "chain": 5, "net": 5, "peek": 8, "plan": 8, "near": 6, "judge": 4, "join": 2, "dead": 1, "crash": 1, "start": 1},
}

// words is in one order, as a map is not.
var words = strings.Fields("take carry lose double wall tick write read again drop fresh join dead site anew crash arm start lead judge show calls of chain net peek plan near")

func (x maker) word(m mood) string {
	sum := 0
	for _, often := range m {
		sum += often
	}
	n := x.IntN(sum)
	for _, w := range words {
		if n < m[w] {
			return w
		}
		n -= m[w]
	}
	panic(n)
}

// link is one with messages, mostly, and one of these.
func (x maker) link() string {
	l := x.Net().Busy()
	if len(l) == 0 || x.IntN(60) == 0 {
		return fmt.Sprint(x.IntN(15)-1, x.IntN(15)-1, x.IntN(9)-1)
	}
	k := l[x.IntN(len(l))]
	return fmt.Sprint(k.From, k.To, x.IntN(x.Net().Len(k)))
}

// whoever is one of the members, mostly.
func (x maker) whoever() int {
	if c := x.newest(); len(c.Members) > 0 && x.IntN(4) > 0 {
		return c.Members[x.IntN(len(c.Members))].Node
	}
	return x.IntN(6)
}

// epoch is that of the chain, mostly.
func (x maker) epoch() int { return max(0, x.newest().Epoch-x.IntN(8)/7) }

func (x maker) key() string { return string(rune('a' + x.IntN(3))) }

// rest is what stands behind a word.
func (x maker) rest(word string) string {
	switch word {
	case "take", "lose", "double", "peek":
		return x.link()
	case "carry":
		return fmt.Sprint([]int{0, 1, 2, 5, 20, 100, 1000, 1001, -1}[x.IntN(9)])
	case "wall":
		return fmt.Sprint([]int{0, 0, -1, x.IntN(1 << 14)}[x.IntN(4)])
	case "tick":
		return fmt.Sprint(x.IntN(40)%11, x.IntN(9))
	case "write":
		return fmt.Sprint(x.IntN(21)%5, " ", max(layout.Head(x.newest()), 0)+x.IntN(9)/8, " ", x.key(), " v", x.Time())
	case "read":
		return fmt.Sprint(x.IntN(21)%5, " ", x.whoever(), " ", x.key(), " ", x.IntN(31)%4, " ", x.IntN(3))
	case "again":
		return fmt.Sprint(x.IntN(4), x.whoever())
	case "drop", "fresh", "calls":
		return fmt.Sprint(x.IntN(6) - 1)
	case "join":
		return fmt.Sprint(x.IntN(6), x.IntN(3), x.epoch())
	case "dead", "anew":
		return fmt.Sprint(x.IntN(6), x.whoever(), x.epoch())
	case "site":
		return fmt.Sprint(x.IntN(6), x.IntN(4), x.epoch())
	case "crash":
		return fmt.Sprint(x.IntN(9), x.IntN(40)-5)
	case "arm":
		return fmt.Sprint(x.IntN(9), 1+x.IntN(150), x.IntN(40)-5)
	case "start":
		return fmt.Sprint(x.IntN(10), x.IntN(70)%9)
	case "lead":
		return fmt.Sprint(x.IntN(15)%5 - 1)
	case "show":
		return fmt.Sprint(x.IntN(8) - 1)
	case "of":
		return fmt.Sprint(x.IntN(8)-1, " ", x.key())
	case "plan":
		return fmt.Sprint(x.IntN(20)%7, x.IntN(20)%8, x.IntN(40)%9-1)
	case "near":
		return fmt.Sprint(x.IntN(5) - 1)
	}
	return ""
}

// next is a line.
func (x maker) next(m mood) string {
	w := x.word(m)
	return strings.TrimRight(w+" "+x.rest(w), " ")
}
