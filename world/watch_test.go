package world_test

import (
	"fmt"
	"math/rand/v2"
	"slices"
	"strings"
	"testing"

	"towline/api"
	"towline/judge"
	"towline/layout"
	"towline/lin"
	"towline/node"
	"towline/shelf"
	"towline/world"
)

// Places: nodes are 0 to 5.
const (
	nodes       = 6
	firstMaster = 6
	firstClient = 9
)

var secret = []byte("0123456789abcdef")

func key(name string) api.Key {
	k, e := shelf.Key(name)
	if e != api.OK {
		panic(name)
	}
	return k
}

// kept is all that a shelf and an era tell, but for what is committed, which no disk keeps.
type kept struct {
	era   int
	table api.Table
	recs  []api.Record
}

func keptOf(s *shelf.Shelf, era int) kept { return kept{era, s.Table(), behind(s)} }

func behind(s *shelf.Shelf) []api.Record {
	l, _ := s.Behind(s.Low(), api.MaxTail)
	return l
}

func sameTable(a, b api.Table) bool {
	return a.Index == b.Index && a.Epoch == b.Epoch && slices.Equal(a.Cells, b.Cells) && slices.Equal(a.Done, b.Done)
}

func (k kept) is(o kept) bool {
	return k.era == o.era && sameTable(k.table, o.table) && slices.Equal(k.recs, o.recs)
}

// past is what a node was when it was last seen.
type past struct {
	kept
	commit int
	chain  int // its epoch
	ran    bool
	whole  bool // what it kept when the power went is known: it was not keeping anything just then
}

// promise is that a write was answered: chains of this epoch or later ones have that version.
type promise struct {
	key   api.Key
	ver   int
	epoch int
}

// watch is a world of which behind each step all is looked at that the promises of the whole speak of.
type watch struct {
	*testing.T
	maker
	committed map[int]api.Record
	tables    map[int]api.Table // by their index
	chains    map[int]string    // by their epoch
	nodes     [nodes]past
	promises  []promise
	armed     [firstClient]bool
	counts    map[string]int
	steps     []api.Step
}

func newWatch(t *testing.T, r *rand.Rand, counts map[string]int, first ...api.Member) *watch {
	t.Helper()
	w, e := world.New(secret, first...)
	if e != api.OK {
		t.Fatal(first, e)
	}
	x := &watch{T: t, maker: maker{Rand: r, World: w}, committed: map[int]api.Record{}, tables: map[int]api.Table{}, chains: map[int]string{}, counts: counts}
	for place := range firstClient {
		x.look(place)
	}
	return x
}

// fail tells what was done up to here, too.
func (x *watch) fail(form string, a ...any) {
	x.Helper()
	var b strings.Builder
	for _, s := range x.steps[max(0, len(x.steps)-15):] {
		fmt.Fprintf(&b, "%+v\n", s)
	}
	x.Fatalf("%s\nbehind %d steps, the last ones:\n%s", fmt.Sprintf(form, a...), len(x.steps), b.String())
}

// do does a step, and looks.
func (x *watch) do(s api.Step) api.Errno {
	x.Helper()
	x.steps = append(x.steps, s)
	before := x.past(s)
	e := x.Step(s)
	if x.Time() != len(x.steps) {
		x.fail("the time is %d", x.Time())
	}
	if s.Kind == api.SStart && e == api.OK && s.From < nodes {
		x.opened(s.From, before)
	}
	x.look(s.From)
	x.look(s.To)
	x.answers()
	x.counts[fmt.Sprint("error ", int(e))]++
	return e
}

func (x *watch) past(s api.Step) past {
	if s.Kind != api.SStart || s.From < 0 || s.From >= nodes {
		return past{}
	}
	return x.nodes[s.From]
}

// opened is P4: a node that crashed has all that it had stored, and its epoch; it is in no chain.
func (x *watch) opened(i int, was past) {
	x.Helper()
	n := x.Node(i)
	s, era := n.Stored()
	if n.State().Chain().Epoch != 0 || n.State().Whole() {
		x.fail("node %d was opened into %v", i, n.State().Chain())
	}
	// What was in the making when the power went may be there, or not; what was committed is there.
	if was.whole && !was.is(keptOf(s, era)) {
		x.fail("node %d has %v, and had %v", i, keptOf(s, era), was.kept)
	}
	if last, _ := s.Last(); era < was.era || last < was.commit {
		x.fail("node %d has era %d, was %d; last %d, committed %d", i, era, was.era, last, was.commit)
	}
	for _, r := range behind(s) {
		if r.Index <= was.commit && r != x.committed[r.Index] {
			x.fail("node %d has %v, committed was %v", i, r, x.committed[r.Index])
		}
	}
	x.counts[fmt.Sprint("opened ", was.whole)]++
}

// look holds a node or a master against what was seen before. (Those that a step does not name are as they were: see TestModel.)
func (x *watch) look(place int) {
	x.Helper()
	if place >= 0 && place < nodes {
		n := x.Node(place)
		if n != nil {
			x.lookAt(place, n)
		}
		if n == nil && x.nodes[place].ran && x.steps[len(x.steps)-1].Kind != api.SCrash {
			x.nodes[place].whole = false
		}
		x.nodes[place].ran = n != nil
	}
	if m := x.Master(place - firstMaster); m != nil {
		x.chain(m.Chain())
	}
}

// chain is P4: of one epoch there is one.
func (x *watch) chain(c api.Chain) {
	x.Helper()
	text := ""
	for _, m := range c.Members {
		text += fmt.Sprint(m.Node, "@", m.Site, " ")
	}
	if was, there := x.chains[c.Epoch]; there && was != text {
		x.fail("epoch %d has the chains %s and %s", c.Epoch, was, text)
	}
	x.chains[c.Epoch] = text
}

func (x *watch) lookAt(i int, n *node.Node) {
	x.Helper()
	st, was := n.State(), x.nodes[i]
	s, era := st.Shelf(), st.Era()
	if era < was.era {
		x.fail("node %d's epoch fell from %d to %d", i, was.era, era)
	}
	if c := st.Chain(); c.Epoch > 0 {
		x.chain(c)
		// Who was in no chain comes into one of a greater epoch alone.
		if c.Epoch > era || was.ran && was.chain == 0 && c.Epoch <= was.era {
			x.fail("node %d is in epoch %d, its era %d, was %d", i, c.Epoch, era, was.era)
		}
	}
	if was.ran && s.Commit() < was.commit {
		x.fail("node %d committed %d, and then %d", i, was.commit, s.Commit())
	}
	is, stored := keptOf(s, era), keptOf(n.Stored())
	if !is.is(stored) {
		x.fail("node %d has %v, and keeps %v", i, is, stored)
	}
	x.records(i, s)
	for _, p := range x.promises {
		if st.Whole() && st.Chain().Epoch >= p.epoch && s.Top(p.key).Ver < p.ver {
			x.fail("node %d of epoch %d has not %v", i, st.Chain().Epoch, p)
		}
	}
	x.nodes[i] = past{kept: stored, commit: s.Commit(), chain: st.Chain().Epoch, whole: true}
}

// records is P4: no two nodes ever have unlike records committed at one place.
func (x *watch) records(i int, s *shelf.Shelf) {
	x.Helper()
	for _, r := range behind(s) {
		if r.Index > s.Commit() {
			break
		}
		if was, there := x.committed[r.Index]; there && was != r {
			x.fail("node %d committed %v, another one %v", i, r, was)
		}
		x.committed[r.Index] = r
	}
	if made := x.table(s.Low()); !sameTable(made, s.Table()) {
		x.fail("node %d has the table %v, the records make %v", i, s.Table(), made)
	}
}

// table is what the records that were committed make, up to an index.
func (x *watch) table(low int) api.Table {
	x.Helper()
	if t, there := x.tables[low]; there {
		return t
	}
	made := shelf.New()
	for at := 1; at <= low; at++ {
		r, there := x.committed[at]
		if e := made.Add(r); !there || e != api.OK {
			x.fail("the record at %d: %v, %d", at, r, e)
		}
		made.Settle(at)
		made.Fold(at)
	}
	x.tables[low] = made.Table()
	return x.tables[low]
}

// answers remembers what a call was just told, that is, what chains must have from now on.
func (x *watch) answers() {
	for _, c := range x.Calls() {
		if c.Ended == x.Time() && c.Write && c.Err == api.OK {
			x.promises = append(x.promises, promise{key: c.Key, ver: c.Ver, epoch: x.Client(c.Client).Chain().Epoch})
		}
	}
}

// log is all records that were committed.
func (x *watch) log() []api.Record {
	x.Helper()
	var l []api.Record
	for at := 1; at <= len(x.committed); at++ {
		r, there := x.committed[at]
		if !there {
			x.fail("no record at %d of %d", at, len(x.committed))
		}
		l = append(l, r)
	}
	return l
}

// judged is P1, P2 and P3.
func (x *watch) judged() {
	x.Helper()
	calls, recs := x.Calls(), x.log()
	if !judge.All(calls, recs) {
		x.fail("judged: right %d, strong %v, values %v, bounds %v, sessions %v:\n%v\n%v", judge.Right(recs), judge.Strong(calls, recs), judge.Values(calls, recs), judge.Bounds(calls), judge.Sessions(calls), calls, recs)
	}
	for _, k := range judge.Keys(calls) {
		l := judge.Ops(k, calls, recs)
		if len(l) > api.MaxOps {
			continue
		}
		x.counts["ordered"]++
		if _, ok, e := lin.Order(l...); !ok || e != api.OK {
			x.fail("no order: %v", l)
		}
	}
	for _, r := range recs {
		x.requested(r, calls)
	}
}

// requested is P1: whatever was committed, somebody asked for.
func (x *watch) requested(r api.Record, calls []api.Call) {
	x.Helper()
	at := slices.IndexFunc(calls, func(c api.Call) bool { return c.Client == r.Req.Client && c.Seq == r.Req.Seq })
	if at < 0 || !calls[at].Write || calls[at].Key != r.Key || calls[at].Value != r.Value {
		x.fail("nobody asked for %v", r)
	}
}

// carry lets all messages come.
func (x *watch) carry() {
	x.Helper()
	for range 20000 {
		l := x.Net().Busy()
		if len(l) == 0 {
			return
		}
		x.do(api.Step{Kind: api.STake, From: l[0].From, To: l[0].To})
	}
	x.fail("messages without end")
}

// fresh tells how fresh a master's rows are: the last one's term, and how many there are.
func (x *watch) fresh(i int) []int {
	rows := x.Master(i).Rows()
	if len(rows) == 0 {
		return []int{0, 0}
	}
	return []int{rows[len(rows)-1].Term, len(rows)}
}

// freshest is a master whose rows are as fresh as any: one that is named, if it is so.
func (x *watch) freshest(best int) int {
	for _, i := range x.Perm(api.Masters) {
		if slices.Compare(x.fresh(i), x.fresh(best)) > 0 {
			best = i
		}
	}
	return best
}

// calm makes all run, and lets time pass: P5.
func (x *watch) calm() {
	x.Helper()
	x.do(api.Step{Kind: api.SWall})
	for place := range firstClient {
		if x.armed[place] {
			x.do(api.Step{Kind: api.SCrash, From: place, N: x.IntN(20) - 5})
			x.armed[place] = false
		}
		if e := x.do(api.Step{Kind: api.SStart, From: place, Timeout: x.IntN(8)}); e != api.OK && e != api.ErrStep {
			x.fail("start of %d: %d", place, e)
		}
	}
	lead := x.IntN(api.Masters)
	x.carry()
	for i := range 40 {
		// One that led before may have got rows meanwhile that this one refused.
		lead = x.freshest(lead)
		if i > 0 && x.lacks(lead) == "" {
			break
		}
		x.counts["rounds"] = max(x.counts["rounds"], i+1)
		x.do(api.Step{Kind: api.STick, From: firstMaster + lead})
		x.carry()
		for i := range nodes {
			x.do(api.Step{Kind: api.STick, From: i})
			x.carry()
		}
	}
	if s := x.lacks(lead); s != "" {
		x.fail("when all is calm: %s", s)
	}
	c := x.Master(lead).Chain()
	x.finish(c)
	x.anew(c)
	x.judged()
	x.counts["calm"]++
}

// lacks is what P5 asks for, and is not so as yet.
func (x *watch) lacks(lead int) string {
	for i := range api.Masters {
		if v := x.Master(i).View(); (v.Role == api.Leads) != (i == lead) || v.Lead != lead {
			return fmt.Sprintf("master %d should lead: %+v", lead, v)
		}
	}
	c := x.Master(lead).Chain()
	if layout.Whole(c) != layout.Nodes(c) {
		return fmt.Sprintf("not all are whole: %v", c)
	}
	last, _ := x.Node(layout.Head(c)).State().Shelf().Last()
	for _, m := range c.Members {
		st := x.Node(m.Node).State()
		s := st.Shelf()
		if l, _ := s.Last(); !layout.Same(st.Chain(), c) || !st.Whole() || l != last || s.Commit() != last {
			return fmt.Sprintf("node %d of %v is in %v, whole %v, last %d, committed %d; the head's last %d", m.Node, c, st.Chain(), st.Whole(), l, s.Commit(), last)
		}
	}
	return ""
}

// finish lets calls that are on their way end: they are asked for once more.
func (x *watch) finish(c api.Chain) {
	x.Helper()
	for i := range api.MaxClients {
		if !x.Client(i).Busy() {
			continue
		}
		x.do(api.Step{Kind: api.SAgain, From: i, To: x.IntN(nodes)})
		x.carry()
		if x.Client(i).Busy() {
			// A read was asked of somebody who is in no chain.
			x.do(api.Step{Kind: api.SAgain, From: i, To: c.Members[x.IntN(len(c.Members))].Node})
			x.carry()
		}
		if x.Client(i).Busy() {
			l := x.Client(i).Calls()
			x.fail("client %d's call has no end: %+v", i, l[len(l)-1])
		}
		x.counts["finished"]++
	}
}

// anew has each client write at the head, and read in each mode at each node of the chain.
func (x *watch) anew(c api.Chain) {
	x.Helper()
	for i := range api.MaxClients {
		if x.IntN(2) == 0 {
			x.do(api.Step{Kind: api.SFresh, From: i})
		}
		k := x.key()
		x.ends(api.Step{Kind: api.SWrite, From: i, To: layout.Head(c), Key: k, Value: x.value()})
		for _, m := range c.Members {
			x.ends(api.Step{Kind: api.SRead, From: i, To: m.Node, Key: k, Mode: x.IntN(3), Bound: x.IntN(3)})
			x.ends(api.Step{Kind: api.SRead, From: i, To: m.Node, Key: x.key(), Mode: x.IntN(3), Bound: x.IntN(3)})
		}
	}
}

// ends does a call that ends well.
func (x *watch) ends(s api.Step) {
	x.Helper()
	if e := x.do(s); e != api.OK {
		x.fail("%+v: %d", s, e)
	}
	x.carry()
	l := x.Client(s.From).Calls()
	if c := l[len(l)-1]; c.Ended == 0 || c.Err != api.OK {
		x.fail("%+v came to %+v", s, c)
	}
}
