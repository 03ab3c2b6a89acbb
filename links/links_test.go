package links_test

import (
	"bytes"
	"math"
	"slices"
	"strconv"
	"testing"

	"towline/api"
	"towline/links"
	"towline/mask"
)

func link(from, to int) api.Link { return api.Link{From: from, To: to} }

// noLinks is what is no link: a place too low, too high, or twice the same.
var noLinks = []api.Link{
	{From: -1, To: 0}, {From: 0, To: -1}, {From: 32, To: 0}, {From: 0, To: 32}, {From: 64, To: 1}, {From: 1, To: 64},
	{From: 0, To: 0}, {From: 31, To: 31}, {From: -1, To: -1}, {From: 32, To: 32},
	{From: math.MinInt, To: 3}, {From: 3, To: math.MinInt}, {From: math.MaxInt, To: 3}, {From: 3, To: math.MaxInt},
}

// texts is all messages of a link, by Peek.
func texts(t *testing.T, n *links.Net, l api.Link) []string {
	t.Helper()
	var out []string
	for i := range n.Len(l) {
		b, e := n.Peek(l, i)
		if e != api.OK {
			t.Fatalf("%v, message %d of %d: %d", l, i, n.Len(l), e)
		}
		out = append(out, string(b))
	}
	return out
}

func has(t *testing.T, name string, n *links.Net, l api.Link, want ...string) {
	t.Helper()
	if got := texts(t, n, l); !slices.Equal(got, want) {
		t.Errorf("%s: %v has %q, not %q", name, l, got, want)
	}
}

func send(t *testing.T, n *links.Net, l api.Link, messages ...string) {
	t.Helper()
	for _, m := range messages {
		if e := n.Send(l, []byte(m)); e != api.OK {
			t.Fatalf("Send %v, %q: %d", l, m, e)
		}
	}
}

// filled is one whose link from 0 to 1 has eight messages, 0 to 7.
func filled(t *testing.T) *links.Net {
	t.Helper()
	n := links.New()
	for i := range api.MaxLink {
		send(t, n, link(0, 1), strconv.Itoa(i))
	}
	return n
}

// P4.1, P4.2: the chapter's example.
func TestExample(t *testing.T) {
	n, l := links.New(), link(0, 1)
	send(t, n, l, "a", "b")
	if b, ok, e := n.Take(l, 1); string(b) != "b" || !ok || e != api.OK {
		t.Fatal(string(b), ok, e)
	}
	if e := n.Wall(mask.Of(1)); e != api.OK {
		t.Fatal(e)
	}
	if b, ok, e := n.Take(l, 0); len(b) != 0 || ok || e != api.OK {
		t.Fatal(string(b), ok, e)
	}
	if n.Len(l) != 0 {
		t.Error("what the wall held is there still")
	}
}

// P4.1: nothing is on its way at first, and no wall stands.
func TestNew(t *testing.T) {
	n := links.New()
	if n == nil || n.Lost() != 0 || len(n.Busy()) != 0 {
		t.Fatal(n)
	}
	for from := range 32 {
		for to := range 32 {
			l := link(from, to)
			if n.Len(l) != 0 {
				t.Fatal(l)
			}
			if from == to {
				continue
			}
			send(t, n, l, "x")
			if _, ok, e := n.Take(l, 0); !ok || e != api.OK {
				t.Fatal("a wall stands at first", l)
			}
		}
	}
}

// P4.1: a link goes from a place, 0 to 31, to another one.
func TestLinksThatAreNone(t *testing.T) {
	for _, l := range noLinks {
		n := links.New()
		send(t, n, link(0, 1), "a")
		for _, b := range [][]byte{nil, []byte("x"), make([]byte, api.MaxFrame+1)} {
			if e := n.Send(l, b); e != api.ErrLink {
				t.Errorf("Send %v: %d", l, e)
			}
		}
		if b, ok, e := n.Take(l, 0); len(b) != 0 || ok || e != api.ErrLink {
			t.Errorf("Take %v: %v, %v, %d", l, b, ok, e)
		}
		if b, e := n.Peek(l, 0); len(b) != 0 || e != api.ErrLink {
			t.Errorf("Peek %v: %v, %d", l, b, e)
		}
		if n.Lose(l, 0) != api.ErrLink || n.Double(l, 0) != api.ErrLink {
			t.Errorf("Lose, Double %v", l)
		}
		if n.Len(l) != 0 || n.Lost() != 0 || !slices.Equal(n.Busy(), []api.Link{link(0, 1)}) {
			t.Errorf("%v: %d, %d, %v", l, n.Len(l), n.Lost(), n.Busy())
		}
		has(t, "behind refused calls", n, link(0, 1), "a")
	}
}

// P4.1: a link's messages stand in their order, and a link has its own way back.
func TestOrder(t *testing.T) {
	n := links.New()
	for _, l := range []api.Link{link(0, 31), link(31, 0), link(30, 31), link(0, 1)} {
		send(t, n, l, "a", "", "a", "b")
		has(t, "sent", n, l, "a", "", "a", "b")
	}
	if b, ok, e := n.Take(link(0, 31), 3); string(b) != "b" || !ok || e != api.OK {
		t.Error(b, ok, e)
	}
	if b, ok, e := n.Take(link(0, 31), 1); len(b) != 0 || !ok || e != api.OK {
		t.Error("an empty message is one, too", b, ok, e)
	}
	has(t, "taken from", n, link(0, 31), "a", "a")
	has(t, "its way back", n, link(31, 0), "a", "", "a", "b")
}

// P4.1: messages that are not there.
func TestMessagesThatAreNone(t *testing.T) {
	n, l := links.New(), link(3, 4)
	for _, many := range []int{0, 1, 2} {
		if many > 0 {
			send(t, n, l, "m")
		}
		want := texts(t, n, l)
		for _, i := range []int{-1, many, many + 1, 8, math.MinInt, math.MaxInt} {
			if b, ok, e := n.Take(l, i); len(b) != 0 || ok || e != api.ErrLink {
				t.Errorf("Take %d of %d: %v, %v, %d", i, many, b, ok, e)
			}
			if b, e := n.Peek(l, i); len(b) != 0 || e != api.ErrLink {
				t.Errorf("Peek %d of %d: %v, %d", i, many, b, e)
			}
			if n.Lose(l, i) != api.ErrLink || n.Double(l, i) != api.ErrLink {
				t.Errorf("Lose, Double %d of %d", i, many)
			}
			has(t, "behind refused calls", n, l, want...)
		}
	}
	full := filled(t)
	if full.Double(link(0, 1), 8) != api.ErrLink || full.Double(link(0, 1), -1) != api.ErrLink {
		t.Error("ErrLink is named ahead of ErrFull")
	}
}

// P4.1: a message has at most MaxFrame bytes.
func TestSizes(t *testing.T) {
	n, l := links.New(), link(0, 1)
	for _, size := range []int{0, 1, api.MaxFrame - 1, api.MaxFrame} {
		want := bytes.Repeat([]byte{200}, size)
		if e := n.Send(l, want); e != api.OK {
			t.Errorf("%d bytes: %d", size, e)
		}
		if b, ok, e := n.Take(l, 0); !bytes.Equal(b, want) || !ok || e != api.OK {
			t.Errorf("%d bytes: %d, %v, %d", size, len(b), ok, e)
		}
	}
	full := filled(t)
	for _, size := range []int{api.MaxFrame + 1, 1 << 20} {
		if n.Send(l, make([]byte, size)) != api.ErrLong || n.Len(l) != 0 {
			t.Errorf("%d bytes", size)
		}
		if full.Send(l, make([]byte, size)) != api.ErrLong || full.Lost() != 0 {
			t.Errorf("%d bytes on a full link: ErrLong is named ahead of ErrFull, and none is lost", size)
		}
	}
}

// P4.1, P4.2, P4.5: eight messages, and one more.
func TestFull(t *testing.T) {
	n, l := filled(t), link(0, 1)
	all := []string{"0", "1", "2", "3", "4", "5", "6", "7"}
	for i := range 3 {
		if n.Send(l, []byte("more")) != api.ErrFull || n.Lost() != i+1 {
			t.Error(n.Lost())
		}
		if n.Double(l, 7) != api.ErrFull || n.Lost() != i+1 {
			t.Error("a Double that has no room is not lost", n.Lost())
		}
	}
	has(t, "full", n, l, all...)
	send(t, n, link(1, 0), "back")
	if n.Lose(l, 2) != api.OK || n.Double(l, 0) != api.OK || n.Send(l, nil) != api.ErrFull || n.Lost() != 4 {
		t.Error(n.Lost())
	}
	has(t, "full again", n, l, "0", "1", "3", "4", "5", "6", "7", "0")
	if n.Forget(0) != api.OK || n.Wall(1) != api.OK || n.Lost() != 4 {
		t.Error("what was lost stays lost", n.Lost())
	}
}

// P4.1: Lose, Double and Peek.
func TestLoseDoublePeek(t *testing.T) {
	n, l := links.New(), link(7, 5)
	send(t, n, l, "a", "b", "c")
	if n.Double(l, 1) != api.OK {
		t.Error("Double")
	}
	has(t, "doubled", n, l, "a", "b", "c", "b")
	if n.Lose(l, 1) != api.OK {
		t.Error("Lose")
	}
	has(t, "lost", n, l, "a", "c", "b")
	for range 2 {
		if b, e := n.Peek(l, 2); string(b) != "b" || e != api.OK {
			t.Error(b, e)
		}
	}
	for range 3 {
		if n.Lose(l, 0) != api.OK {
			t.Error("Lose")
		}
	}
	if n.Len(l) != 0 || len(n.Busy()) != 0 || n.Lose(l, 0) != api.ErrLink {
		t.Error(n.Len(l), n.Busy())
	}
}

// P4.1, P4.2: a wall parts those of a set from all others, when a message is taken, and then alone.
func TestWall(t *testing.T) {
	for _, side := range []mask.Set{0, mask.Of(0), mask.Of(1), mask.Of(0, 1), mask.Of(31), mask.Of(2, 31), 1<<32 - 1, 1<<64 - 1, 1<<64 - 2, 0xffffffff << 32} {
		for _, l := range []api.Link{link(0, 1), link(1, 0), link(0, 31), link(31, 2), link(2, 3)} {
			n := links.New()
			if n.Wall(1<<64-1) != api.OK || n.Wall(mask.Of(l.From)) != api.OK || n.Wall(side) != api.OK {
				t.Fatal("Wall")
			}
			send(t, n, l, "a", "b", "c")
			if b, e := n.Peek(l, 1); string(b) != "b" || e != api.OK || n.Double(l, 1) != api.OK || n.Lose(l, 0) != api.OK {
				t.Errorf("side %b, %v: the wall is in the way of others", side, l)
			}
			parted := side>>l.From&1 != side>>l.To&1
			b, ok, e := n.Take(l, 1)
			if e != api.OK || ok == parted || parted && len(b) != 0 || !parted && string(b) != "c" {
				t.Errorf("side %b, %v: %q, %v, %d", side, l, b, ok, e)
			}
			has(t, "taken", n, l, "b", "b")
			if b, ok, e := n.Take(l, 2); len(b) != 0 || ok || e != api.ErrLink {
				t.Errorf("side %b, %v, no message: %q, %v, %d", side, l, b, ok, e)
			}
			if n.Wall(0) != api.OK {
				t.Error("Wall")
			}
			if b, ok, e := n.Take(l, 0); string(b) != "b" || !ok || e != api.OK {
				t.Errorf("side %b, %v, without it: %q, %v, %d", side, l, b, ok, e)
			}
		}
	}
}

// P4.2: Forget loses what is from a place and to it, and nothing else.
func TestForget(t *testing.T) {
	of := []int{0, 1, 2, 30, 31}
	for _, place := range []int{-1, 0, 1, 31, 32, 63, 64, math.MinInt, math.MaxInt} {
		n := links.New()
		for _, from := range of {
			for _, to := range of {
				if from != to {
					send(t, n, link(from, to), "a", "b")
				}
			}
		}
		for range 2 {
			if e := n.Forget(place); e != api.OK {
				t.Errorf("Forget %d: %d", place, e)
			}
		}
		for _, from := range of {
			for _, to := range of {
				want := []string{"a", "b"}
				if from == to || from == place || to == place {
					want = nil
				}
				has(t, "forgot "+strconv.Itoa(place), n, link(from, to), want...)
			}
		}
	}
}

// P4.2: Busy is by rising From, then To.
func TestBusy(t *testing.T) {
	n := links.New()
	var want []api.Link
	for from := range 32 {
		for to := range 32 {
			if from != to {
				want = append(want, link(from, to))
			}
		}
	}
	for i := range want { // in another order than Busy's
		send(t, n, want[i*7%len(want)], "x")
	}
	for range 3 {
		if got := n.Busy(); !slices.Equal(got, want) {
			t.Fatal(got)
		}
	}
	for len(want) > 0 {
		at := len(want) * 2 / 3
		if e := n.Lose(want[at], 0); e != api.OK {
			t.Fatal(e)
		}
		want = slices.Delete(want, at, at+1)
		if got := n.Busy(); !slices.Equal(got, want) {
			t.Fatal(got)
		}
	}
}

// twins is a Net whose link from 0 to 1 has so many messages, with a wall ahead of 1, and its clone.
func twins(t *testing.T, many int) (n, clone *links.Net) {
	t.Helper()
	n = links.New()
	for i := range many {
		send(t, n, link(0, 1), strconv.Itoa(i))
	}
	if many == api.MaxLink {
		n.Send(link(0, 1), nil) // one is lost
	}
	n.Wall(mask.Of(1))
	return n, n.Clone()
}

// P4.2: a clone is the same.
func TestClone(t *testing.T) {
	l := link(0, 1)
	for _, many := range []int{0, 1, 3, 8} {
		n, c := twins(t, many)
		has(t, "clone", c, l, texts(t, n, l)...)
		if c.Lost() != n.Lost() || c.Lost() != many/8 || !slices.Equal(c.Busy(), n.Busy()) {
			t.Error(many, c.Lost(), c.Busy())
		}
		if many == 0 {
			send(t, c, l, "0")
		}
		if _, ok, e := c.Take(l, 0); ok || e != api.OK {
			t.Error(many, "the clone has no wall")
		}
	}
}

// P4.2: of a Net and its clone neither knows what is done to the other one.
func TestClonesApart(t *testing.T) {
	l := link(0, 1)
	for _, many := range []int{1, 3, 8} {
		for _, turned := range []bool{false, true} {
			a, b := twins(t, many)
			if turned {
				a, b = b, a
			}
			want, lost := texts(t, b, l), b.Lost()
			a.Lose(l, 0)
			a.Send(l, []byte("new"))
			a.Double(l, 0)
			a.Send(link(5, 6), []byte("other"))
			for range 9 {
				a.Send(l, []byte("many"))
			}
			a.Wall(0)
			has(t, "the other one", b, l, want...)
			a.Forget(0)
			has(t, "the other one, behind Forget", b, l, want...)
			if b.Lost() != lost || !slices.Equal(b.Busy(), []api.Link{l}) {
				t.Error(many, turned, b.Lost(), b.Busy())
			}
			if _, ok, e := b.Take(l, 0); ok || e != api.OK {
				t.Error(many, turned, "they share a wall")
			}
		}
	}
}

// P4.1, P4.2 and the rule Objects: a Net that New did not make.
func TestNetThatNewDidNotMake(t *testing.T) {
	for _, n := range []*links.Net{nil, {}, new(links.Net)} {
		for _, l := range append(noLinks, link(0, 1)) {
			for _, b := range [][]byte{nil, make([]byte, api.MaxFrame+1)} {
				if e := n.Send(l, b); e != api.ErrNil {
					t.Error("Send", e)
				}
			}
			if b, ok, e := n.Take(l, 0); len(b) != 0 || ok || e != api.ErrNil {
				t.Error("Take", b, ok, e)
			}
			if b, e := n.Peek(l, -1); len(b) != 0 || e != api.ErrNil {
				t.Error("Peek", b, e)
			}
			if n.Lose(l, 0) != api.ErrNil || n.Double(l, 0) != api.ErrNil || n.Len(l) != 0 {
				t.Error("Lose, Double, Len")
			}
		}
		if n.Wall(1) != api.ErrNil || n.Forget(0) != api.ErrNil || n.Forget(-1) != api.ErrNil {
			t.Error("Wall, Forget")
		}
		if n.Lost() != 0 || len(n.Busy()) != 0 || n.Clone() != nil {
			t.Error("Lost, Busy, Clone")
		}
	}
}

// scribble writes all over a list, its spare room too.
func scribble(b []byte) {
	b = b[:cap(b)]
	for i := range b {
		b[i] = 33
	}
}

// The rule Memory: what is handed in is neither changed nor kept, and no two answers share.
func TestMemory(t *testing.T) {
	n, l := links.New(), link(0, 1)
	room := bytes.Repeat([]byte{'r'}, 64)
	for range 3 {
		if e := n.Send(l, room[:4]); e != api.OK {
			t.Fatal(e)
		}
	}
	n.Double(l, 0)
	c := n.Clone()
	if !bytes.Equal(room, bytes.Repeat([]byte{'r'}, 64)) {
		t.Error("Send wrote to its argument")
	}
	scribble(room)
	all := []string{"rrrr", "rrrr", "rrrr", "rrrr"}
	has(t, "its argument changed", n, l, all...)
	peeked, _ := n.Peek(l, 0)
	scribble(peeked)
	has(t, "an answer of Peek changed", n, l, all...)
	taken, _, _ := n.Take(l, 0)
	again, _, _ := n.Take(l, 0)
	scribble(taken)
	if string(again) != "rrrr" {
		t.Error("two answers share")
	}
	has(t, "an answer of Take changed", n, l, all[2:]...)
	has(t, "the clone", c, l, all...)
	busy := n.Busy()
	busy[0] = link(9, 9)
	if !slices.Equal(n.Busy(), []api.Link{l}) || n.Len(l) != 2 {
		t.Error("an answer of Busy is shared")
	}
}
