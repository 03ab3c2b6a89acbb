package raft_test

import (
	"bytes"
	"slices"
	"testing"

	"towline/api"
	"towline/raft"
)

// plain is a state by the chapter's words, one behind the other; it takes only messages that may be.
type plain struct {
	id, term, vote      int
	rows                []api.Row
	commit, role, lead  int
	clock, limit, round int
	votes               map[int]bool
	asked               []asked
	next, match, heard  map[int]int
	out                 api.Out
}

type asked struct{ nonce, index, round int }

// plainOf is one as New makes it, of what may be.
func plainOf(id int, h api.Hard, rows []api.Row, timeout int) *plain {
	return &plain{id: id, term: h.Term, vote: h.Vote, rows: copyRows(rows), lead: -1, limit: 4 + timeout}
}

func copyRows(l []api.Row) []api.Row {
	var out []api.Row
	for _, r := range l {
		out = append(out, api.Row{Term: r.Term, Data: bytes.Clone(r.Data)})
	}
	return out
}

func (p *plain) at(index int) int {
	if index >= 1 && index <= len(p.rows) {
		return p.rows[index-1].Term
	}
	return 0
}

func (p *plain) tell(m api.Msg) {
	m.From, m.Term = p.id, p.term
	p.out.Send = append(p.out.Send, m)
}

func (p *plain) fall(lead int) {
	p.role, p.lead, p.asked, p.votes = 0, lead, nil, nil
}

func (p *plain) feed(to int) {
	n := p.next[to]
	m := api.Msg{Kind: 3, To: to, Prev: n - 1, Last: p.at(n - 1), Commit: p.commit, Round: p.round}
	for i := n; i <= len(p.rows) && i < n+4; i++ {
		m.Rows = append(m.Rows, p.rows[i-1])
	}
	p.tell(m)
}

func (p *plain) feedAll() {
	for i := range 3 {
		if i != p.id {
			p.feed(i)
		}
	}
}

func (p *plain) push(data []byte) {
	p.rows = append(p.rows, api.Row{Term: p.term, Data: bytes.Clone(data)})
	p.out.From = len(p.rows)
}

func (p *plain) tick(timeout int) api.Out {
	p.out = api.Out{}
	if timeout < 0 || timeout > 7 {
		return api.Out{Err: api.ErrArg}
	}
	if p.role == 2 {
		p.feedAll()
		return p.out
	}
	p.clock++
	if p.clock < p.limit || p.term == 1<<40 {
		return p.out
	}
	p.term++
	p.vote = p.id
	p.out.Hard = true
	p.fall(-1)
	p.role, p.clock, p.limit, p.votes = 1, 0, 4+timeout, map[int]bool{p.id: true}
	for i := range 3 {
		if i != p.id {
			p.tell(api.Msg{Kind: 1, To: i, Index: len(p.rows), Last: p.at(len(p.rows))})
		}
	}
	return p.out
}

func (p *plain) propose(data []byte) api.Out {
	p.out = api.Out{}
	switch {
	case p.role != 2:
		return api.Out{Err: api.ErrWait}
	case len(data) < 1 || len(data) > 64:
		return api.Out{Err: api.ErrLong}
	case len(p.rows) >= 200:
		return api.Out{Err: api.ErrFull}
	}
	p.push(data)
	p.feedAll()
	return p.out
}

func (p *plain) ask(nonce int) api.Out {
	p.out = api.Out{}
	switch {
	case p.role != 2 || p.at(p.commit) != p.term:
		return api.Out{Err: api.ErrWait}
	case len(p.asked) >= 12:
		return api.Out{Err: api.ErrFull}
	}
	p.round++
	p.asked = append(p.asked, asked{nonce, p.commit, p.round})
	p.feedAll()
	return p.out
}

// right is the chapter's words of a message that may be, one by one.
func (p *plain) right(m api.Msg) bool {
	if m.From == p.id || m.From < 0 || m.From > 2 || m.To != p.id || m.Term < 1 {
		return false
	}
	for _, n := range []int{m.Term, m.Index, m.Prev, m.Last, m.Commit, m.Round} {
		if n < 0 || n > 1<<40 {
			return false
		}
	}
	switch m.Kind {
	case 1:
		return m.Index <= 200 && m.Last <= m.Term && (m.Index == 0 && m.Last == 0 || m.Index != 0 && m.Last != 0)
	case 2:
		return true
	case 3:
		if m.Prev == 0 && m.Last != 0 || m.Prev != 0 && m.Last == 0 || m.Last > m.Term || len(m.Rows) > 4 || m.Prev+len(m.Rows) > 200 {
			return false
		}
		least := m.Last
		if least == 0 {
			least = 1
		}
		for _, r := range m.Rows {
			if r.Term < least || r.Term > m.Term || len(r.Data) > 64 {
				return false
			}
			least = r.Term
		}
		return true
	case 4:
		return m.Index <= 200
	}
	return false
}

func (p *plain) take(m api.Msg) api.Out {
	p.out = api.Out{}
	if !p.right(m) {
		return api.Out{Err: api.ErrTerm}
	}
	if m.Term > p.term {
		p.term, p.vote = m.Term, -1
		p.out.Hard = true
		p.fall(-1)
	}
	switch m.Kind {
	case 1:
		p.voted(m)
	case 2:
		p.grant(m)
	case 3:
		p.fed(m)
	case 4:
		p.hear(m)
	}
	return p.out
}

func (p *plain) voted(m api.Msg) {
	yes := m.Term == p.term && (p.vote == -1 || p.vote == m.From)
	end := p.at(len(p.rows))
	yes = yes && (m.Last > end || m.Last == end && m.Index >= len(p.rows))
	if yes {
		if p.vote != m.From {
			p.out.Hard = true
		}
		p.vote, p.clock = m.From, 0
	}
	p.tell(api.Msg{Kind: 2, To: m.From, Yes: yes})
}

func (p *plain) grant(m api.Msg) {
	if m.Term != p.term || p.role != 1 || !m.Yes {
		return
	}
	p.votes[m.From] = true
	if len(p.votes) < 2 {
		return
	}
	p.role, p.lead, p.round = 2, p.id, 0
	p.next, p.match, p.heard = map[int]int{}, map[int]int{}, map[int]int{}
	for i := range 3 {
		p.next[i] = len(p.rows) + 1
	}
	if len(p.rows) < 200 {
		p.push(nil)
	}
	p.feedAll()
}

func (p *plain) fed(m api.Msg) {
	answer := api.Msg{Kind: 4, To: m.From, Round: m.Round}
	defer func() { p.tell(answer) }()
	if m.Term < p.term || p.role == 2 {
		return
	}
	p.fall(m.From)
	p.clock = 0
	if m.Prev != 0 && (m.Prev > len(p.rows) || p.at(m.Prev) != m.Last) {
		answer.Index = max(min(len(p.rows), m.Prev-1), 0)
		return
	}
	for i, r := range m.Rows {
		index := m.Prev + i + 1
		if p.at(index) == r.Term {
			continue
		}
		if index <= p.commit {
			return
		}
		p.rows = append(slices.Clip(p.rows[:index-1]), copyRows([]api.Row{r})...)
		if p.out.From == 0 || index < p.out.From {
			p.out.From = index
		}
	}
	answer.Yes, answer.Index = true, m.Prev+len(m.Rows)
	if c := min(m.Commit, answer.Index); c > p.commit {
		p.commit = c
	}
}

func (p *plain) hear(m api.Msg) {
	if m.Term != p.term || p.role != 2 {
		return
	}
	if r := min(m.Round, p.round); r > p.heard[m.From] {
		p.heard[m.From] = r
	}
	has, was := min(m.Index, len(p.rows)), p.next[m.From]
	if !m.Yes {
		p.next[m.From] = max(p.match[m.From], has) + 1
	} else {
		if has > p.match[m.From] {
			p.match[m.From] = has
		}
		if has+1 > p.next[m.From] {
			p.next[m.From] = has + 1
		}
		for i := p.commit + 1; i <= len(p.rows); i++ {
			if p.at(i) == p.term && p.others(p.match, i) > 0 {
				p.commit = i
			}
		}
	}
	for len(p.asked) > 0 && p.others(p.heard, p.asked[0].round) > 0 {
		p.out.Sure = append(p.out.Sure, api.Sure{Nonce: p.asked[0].nonce, Index: p.asked[0].index})
		p.asked = p.asked[1:]
	}
	if m.Yes && p.next[m.From] <= len(p.rows) || !m.Yes && p.next[m.From] < was {
		p.feed(m.From)
	}
}

// others is how many others have at least so much: with itself, one is most of three.
func (p *plain) others(of map[int]int, least int) int {
	many := 0
	for i, n := range of {
		if i != p.id && n >= least {
			many++
		}
	}
	return many
}

func (p *plain) view() api.View {
	return api.View{ID: p.id, Role: p.role, Lead: p.lead, Hard: api.Hard{Term: p.term, Vote: p.vote}, Commit: p.commit, Len: len(p.rows)}
}

// sameRows is whether rows are the same; no data and empty data are.
func sameRows(a, b []api.Row) bool {
	return slices.EqualFunc(a, b, func(x, y api.Row) bool { return x.Term == y.Term && bytes.Equal(x.Data, y.Data) })
}

// sameMsg is whether all that messages of masters have is the same, and nothing else is in the first one.
func sameMsg(a, b api.Msg) bool {
	rest := a.Epoch == 0 && a.Nonce == 0 && a.Err == 0 && a.Recs == nil && a.Table.Cells == nil && a.Chain.Members == nil &&
		a.Cmd == (api.Command{}) && a.Req == (api.Req{}) && a.Key == (api.Key{}) && a.Value == "" && a.Ver == 0 && a.Mode == 0 && a.Bound == 0 && a.Pass == nil
	return rest && a.Kind == b.Kind && a.From == b.From && a.To == b.To && a.Term == b.Term && a.Index == b.Index && a.Prev == b.Prev &&
		a.Last == b.Last && a.Commit == b.Commit && a.Round == b.Round && a.Yes == b.Yes && sameRows(a.Rows, b.Rows)
}

// sameOut is whether two calls told the same.
func sameOut(a, b api.Out) bool {
	return a.Err == b.Err && a.Hard == b.Hard && a.From == b.From && slices.EqualFunc(a.Send, b.Send, sameMsg) && slices.Equal(a.Sure, b.Sure)
}

// pair is a state, and a plain one to which the same is done.
type pair struct {
	*testing.T
	s *raft.State
	p *plain
}

// pairOf is both, newly made.
func pairOf(t *testing.T, id int, h api.Hard, rows []api.Row, timeout int) *pair {
	t.Helper()
	s, e := raft.New(id, h, rows, timeout)
	if e != api.OK || s == nil {
		t.Fatal(id, h, timeout, e)
	}
	x := &pair{T: t, s: s, p: plainOf(id, h, rows, timeout)}
	x.held(api.Out{}, api.Out{})
	return x
}

// held checks that both told the same, and are the same.
func (x *pair) held(got, want api.Out) api.Out {
	x.Helper()
	if !sameOut(got, want) {
		x.Fatalf("told %+v, not %+v", got, want)
	}
	if x.s.View() != x.p.view() {
		x.Fatalf("is %+v, not %+v", x.s.View(), x.p.view())
	}
	if !sameRows(x.s.Rows(1, 999), x.p.rows) {
		x.Fatalf("has %v, not %v", x.s.Rows(1, 999), x.p.rows)
	}
	return got
}

func (x *pair) tick(timeout int) api.Out {
	x.Helper()
	return x.held(x.s.Tick(timeout), x.p.tick(timeout))
}

func (x *pair) propose(data []byte) api.Out {
	x.Helper()
	return x.held(x.s.Propose(data), x.p.propose(data))
}

func (x *pair) ask(nonce int) api.Out {
	x.Helper()
	return x.held(x.s.Ask(nonce), x.p.ask(nonce))
}

func (x *pair) take(m api.Msg) api.Out {
	x.Helper()
	return x.held(x.s.Take(m), x.p.take(m))
}
