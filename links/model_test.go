package links_test

import (
	"math/rand/v2"
	"slices"
	"strconv"
	"testing"

	"towline/api"
	"towline/links"
	"towline/mask"
)

// entry is a message in a model: all of them stand in one list, in the order in which they came.
type entry struct {
	l    api.Link
	text string
}

type model struct {
	list []entry
	side map[int]int // by place: 1, if it stands on the wall's side
	lost int
}

// at is where the i-th message of a link stands in the list; -1: there is none.
func (m *model) at(l api.Link, i int) int {
	if i < 0 {
		return -1
	}
	for at, x := range m.list {
		if x.l == l {
			if i == 0 {
				return at
			}
			i--
		}
	}
	return -1
}

func (m *model) many(l api.Link) int {
	many := 0
	for _, x := range m.list {
		if x.l == l {
			many++
		}
	}
	return many
}

func (m *model) send(l api.Link, text string) api.Errno {
	bad := func(p int) bool { return p < 0 || p > 31 }
	switch {
	case bad(l.From) || bad(l.To) || l.From == l.To:
		return api.ErrLink
	case len(text) > 8192:
		return api.ErrLong
	case m.many(l) == 8:
		m.lost++
		return api.ErrFull
	}
	m.list = append(m.list, entry{l, text})
	return api.OK
}

func (m *model) lose(l api.Link, i int) (string, api.Errno) {
	at := m.at(l, i)
	if at < 0 {
		return "", api.ErrLink
	}
	text := m.list[at].text
	m.list = slices.Delete(m.list, at, at+1)
	return text, api.OK
}

func (m *model) double(l api.Link, i int) api.Errno {
	at := m.at(l, i)
	switch {
	case at < 0:
		return api.ErrLink
	case m.many(l) == 8:
		return api.ErrFull
	}
	m.list = append(m.list, m.list[at])
	return api.OK
}

func (m *model) clone() *model {
	return &model{list: slices.Clone(m.list), side: m.side, lost: m.lost}
}

// few is the places of the test, some of them none.
var few = []int{-1, 0, 1, 2, 31, 32}

// same holds a Net against its model: all links, all messages.
func same(t *testing.T, n *links.Net, m *model) {
	t.Helper()
	var busy []api.Link
	for _, from := range few {
		for _, to := range few {
			l := link(from, to)
			if n.Len(l) != m.many(l) || n.Len(l) > api.MaxLink {
				t.Fatalf("%v has %d, not %d", l, n.Len(l), m.many(l))
			}
			if n.Len(l) > 0 {
				busy = append(busy, l)
			}
			for i := range n.Len(l) {
				if b, e := n.Peek(l, i); string(b) != m.list[m.at(l, i)].text || e != api.OK {
					t.Fatalf("%v, message %d: %q, %d", l, i, b, e)
				}
			}
		}
	}
	if !slices.Equal(n.Busy(), busy) || n.Lost() != m.lost {
		t.Fatal(n.Busy(), busy, n.Lost(), m.lost)
	}
}

// act does something by chance to both, and tells what they answer.
func act(r *rand.Rand, n *links.Net, m *model, step int) (got, want [3]string) {
	l := link(few[r.IntN(len(few))], few[r.IntN(len(few))])
	i := r.IntN(11) - 1
	tell := func(text string, ok bool, e api.Errno) [3]string {
		return [3]string{text, strconv.FormatBool(ok), strconv.Itoa(int(e))}
	}
	switch kind := r.IntN(20); {
	case kind < 10:
		text := strconv.Itoa(step)
		return tell("", false, n.Send(l, []byte(text))), tell("", false, m.send(l, text))
	case kind < 13:
		b, ok, e := n.Take(l, i)
		text, f := m.lose(l, i)
		through := f == api.OK && m.side[l.From] == m.side[l.To]
		if !through {
			text = ""
		}
		return tell(string(b), ok, e), tell(text, through, f)
	case kind < 14:
		_, e := m.lose(l, i)
		return tell("", false, n.Lose(l, i)), tell("", false, e)
	case kind < 17:
		return tell("", false, n.Double(l, i)), tell("", false, m.double(l, i))
	case kind < 18:
		place := few[r.IntN(len(few))]
		if r.IntN(4) == 0 {
			m.list = slices.DeleteFunc(m.list, func(x entry) bool { return x.l.From == place || x.l.To == place })
			return tell("", false, n.Forget(place)), tell("", false, api.OK)
		}
		fallthrough
	default:
		side := mask.Set(r.Uint64())
		m.side = map[int]int{}
		for _, p := range side.All() {
			m.side[p] = 1
		}
		return tell("", false, n.Wall(side)), tell("", false, api.OK)
	}
}

// P4.1 to P4.5: whatever is done, a Net is what a plain list is: what comes was sent, comes once, and what is done to a link changes no other one.
func TestModel(t *testing.T) {
	for seed := range uint64(40) {
		r := rand.New(rand.NewPCG(seed, 4))
		n, m := links.New(), &model{}
		for step := range 400 {
			if r.IntN(50) == 0 { // go on with a clone, and let the one that was run wild
				old, other := n, m.clone()
				n = n.Clone()
				for range 5 {
					act(r, old, other, step)
				}
				same(t, old, other)
			}
			got, want := act(r, n, m, step)
			if got != want {
				t.Fatalf("seed %d, step %d: %v, not %v", seed, step, got, want)
			}
			same(t, n, m)
		}
	}
}
