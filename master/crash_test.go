package master_test

import (
	"fmt"
	"slices"
	"testing"

	"towline/api"
	"towline/master"
)

// hold is what a master must not forget.
type hold struct {
	hard api.Hard
	rows []api.Row
}

func (h hold) String() string { return fmt.Sprint(h.hard, h.rows) }

func holdOf(m *master.Master) hold { return hold{m.View().Hard, m.Rows()} }

// with is it behind a step's notes, from none to all of them; the notes are told by what the state is then.
func (h hold) with(o hold, notes [][]byte) []string {
	out := []string{h.String()}
	for _, b := range notes {
		if b[0] == 2 { // the number 1, with a sign
			h.hard = o.hard
		} else {
			index := int(b[1]) / 2 // below 64
			h.rows = append(slices.Clone(h.rows[:index-1]), o.rows[index-1])
		}
		out = append(out, h.String())
	}
	return out
}

// settled is master 0 that leads, and has rows, of which some are not committed.
func settled(t *testing.T, room int) *pair {
	t.Helper()
	x := open(t, 0, newDisk(t, room), two(), 0)
	x.stands()
	x.fed(1, 1, 0)
	x.tells(api.Command{Kind: api.CDead, Node: 0, Epoch: 1})
	x.tells(api.Command{Kind: api.CAgain, Node: 0, Epoch: 1})
	return x
}

// steps is some that put something on the tape.
func steps() map[string]func(x *pair) ([]api.Msg, api.Errno) {
	return map[string]func(x *pair) ([]api.Msg, api.Errno){
		"row": func(x *pair) ([]api.Msg, api.Errno) {
			return x.tells(api.Command{Kind: api.CJoin, Node: 5, Site: 1, Epoch: 1})
		},
		"vote": func(x *pair) ([]api.Msg, api.Errno) {
			return x.take(api.Msg{Kind: api.MVote, From: 8, To: 6, Term: 3, Index: 9, Last: 2})
		},
		"rows": func(x *pair) ([]api.Msg, api.Errno) {
			return x.take(api.Msg{Kind: api.MFeed, From: 7, To: 6, Term: 2, Prev: 1, Last: 1, Rows: []api.Row{{Term: 2}, {Term: 2, Data: []byte("ab")}, {Term: 2, Data: []byte("c")}}})
		},
	}
}

// P20.4: the power goes at every byte of what is kept: then it says nothing any more; opened once more it has all that it had said by, with some first notes of that step, or all.
func TestPower(t *testing.T) {
	for name, step := range steps() {
		x := settled(t, 1<<16)
		was := holdOf(x.m)
		l, e := step(x)
		if e != api.OK || len(l) == 0 {
			t.Fatal(name, l, e)
		}
		all := holdOf(x.m)
		may := was.with(all, x.p.notes)
		x.d.Crash()
		x.d.Start()
		if y := open(t, 0, x.d, two(), 0); holdOf(y.m).String() != all.String() {
			t.Errorf("%s: what was said is not kept: %v", name, holdOf(y.m))
		}
		seen := map[string]int{}
		for _, keep := range [][]int{nil, {0, 0}, {9, 9}, {999, 999}} {
			blow(t, step, may, keep, seen)
		}
		if len(seen) != len(may) {
			t.Errorf("%s: %d of %d came", name, len(seen), len(may))
		}
	}
}

// blow arms fuses of one byte and more, up to one that outlasts a step.
func blow(t *testing.T, step func(x *pair) ([]api.Msg, api.Errno), may []string, keep []int, seen map[string]int) {
	t.Helper()
	for fuse := 1; ; fuse++ {
		x := settled(t, 1<<16)
		x.arm(fuse, keep...)
		l, e := step(x)
		if e == api.OK {
			return
		}
		if e != api.ErrDown || len(l) != 0 {
			t.Fatal(fuse, l, e)
		}
		silent(t, x.m)
		x.d.Start()
		silent(t, x.m)
		got := holdOf(open(t, 0, x.d, two(), 0).m).String()
		if !slices.Contains(may, got) {
			t.Errorf("fuse %d: %s, not one of %q", fuse, got, may)
		}
		seen[got]++
		silent(t, x.m)
	}
}

// P20.2: a master without room stands still, too; what it had is there.
func TestNoRoom(t *testing.T) {
	used := settled(t, 1<<16).d.Used()
	for name, step := range steps() {
		x := settled(t, used+3)
		was := holdOf(x.m)
		if l, e := step(x); e != api.ErrFull || len(l) != 0 {
			t.Fatal(name, l, e)
		}
		silent(t, x.m)
		x.d.Crash()
		x.d.Start()
		if y := open(t, 0, x.d, two(), 0); holdOf(y.m).String() != was.String() {
			t.Error(name, holdOf(y.m), was)
		}
	}
}

// What needs nothing to be kept is said while the power is off.
func TestNothingToKeep(t *testing.T) {
	x := leader(t, true)
	x.d.Crash()
	x.p.d.Crash()
	if l, e := x.tick(0); e != api.OK || len(l) != 8 {
		t.Error(kinds(l), e)
	}
	if l, e := x.asks(3, 1, 1); e != api.OK || len(l) != 2 {
		t.Error(kinds(l), e)
	}
	if l := x.fed(2, 1, 1); answers(l) != "[3:1.1=1]" {
		t.Error(answers(l))
	}
	if _, e := x.tells(api.Command{Kind: api.CDead, Node: 0, Epoch: 1}); e != api.ErrDown {
		t.Error(e)
	}
	silent(t, x.m)
}
