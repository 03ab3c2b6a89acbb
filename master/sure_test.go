package master_test

import (
	"fmt"
	"testing"

	"towline/api"
)

// answers is to whom, of which epoch and nonce, the chain of which epoch is told.
func answers(l []api.Msg) string {
	var s []string
	for _, m := range l {
		if m.Kind == api.MChain {
			s = append(s, fmt.Sprintf("%d:%d.%d=%d", m.To, m.Epoch, m.Nonce, m.Chain.Epoch))
		}
	}
	return fmt.Sprint(s)
}

// P20.3: a question waits until most were heard of behind it, and is answered once, with its epoch, its nonce, and the chain.
func TestSure(t *testing.T) {
	x := leader(t, true)
	l, e := x.asks(3, 7, 9)
	if e != api.OK || kinds(l) != "[3>7 3>8]" || l[0].Round != 1 {
		t.Fatal(kinds(l), e)
	}
	if l := x.fed(1, 1, 0); len(l) != 0 {
		t.Error(answers(l))
	}
	if l := x.fed(1, 1, 1); answers(l) != "[3:7.9=1]" {
		t.Error(answers(l))
	}
	if l := x.fed(2, 1, 1); len(l) != 0 {
		t.Error(answers(l))
	}
	// Whoever asks is answered.
	for _, from := range []int{0, 5, 7, 8, 9, 12} {
		x.asks(from, top, 0)
	}
	if l := x.fed(1, 1, 99); answers(l) != fmt.Sprintf("[0:%d.0=1 5:%d.0=1 7:%d.0=1 8:%d.0=1 9:%d.0=1 12:%d.0=1]", top, top, top, top, top, top) {
		t.Error(answers(l))
	}
}

// P20.3: who does not lead, or does not know of all that is committed, is not sure.
func TestSureWait(t *testing.T) {
	stands := fresh(t, 0)
	for range 4 {
		stands.tick(0)
	}
	for _, x := range []*pair{fresh(t, 0), stands, leader(t, false)} {
		if l, e := x.asks(0, 1, 1); len(l) != 0 || e != api.ErrWait {
			t.Error(l, e)
		}
	}
	x := leader(t, false)
	x.asks(0, 1, 1)
	x.asks(1, 1, 2)
	x.fed(1, 1, 0)
	x.asks(2, 1, 3)
	if l := x.fed(1, 1, 1); answers(l) != "[2:1.3=1]" {
		t.Error(answers(l))
	}
}

// P20.3: twelve questions wait; a thirteenth does not, unless it is one of them.
func TestSureFull(t *testing.T) {
	x := leader(t, true)
	x.asks(0, 1, 0)
	x.fed(1, 1, 1)
	for i := range 12 {
		if _, e := x.asks(i%6, 1, i); e != api.OK {
			t.Fatal(i, e)
		}
	}
	for _, q := range [][3]int{{0, 1, 1}, {0, 2, 0}, {1, 1, 0}, {12, 5, 5}} {
		if l, e := x.asks(q[0], q[1], q[2]); len(l) != 0 || e != api.ErrFull {
			t.Error(q, l, e)
		}
	}
	// One that waits is asked anew; the state has no room for that: ErrFull, too, and it waits as it did.
	if l, e := x.asks(3, 1, 3); len(l) != 0 || e != api.ErrFull {
		t.Error(l, e)
	}
	l := x.fed(1, 1, 4)
	if answers(l) != "[0:1.0=1 1:1.1=1 2:1.2=1]" {
		t.Error(answers(l))
	}
	// Of nine that wait the first one is asked anew, and stands behind all others.
	for _, q := range [][3]int{{3, 1, 3}, {0, 9, 9}} {
		if l, e := x.asks(q[0], q[1], q[2]); e != api.OK || len(l) != 2 {
			t.Error(q, e)
		}
	}
	if l := x.fed(2, 1, 12); answers(l) != "[4:1.4=1 5:1.5=1 0:1.6=1 1:1.7=1 2:1.8=1 3:1.9=1 4:1.10=1]" {
		t.Error(answers(l))
	}
	if l := x.fed(2, 1, 99); answers(l) != "[5:1.11=1 3:1.3=1 0:9.9=1]" {
		t.Error(answers(l))
	}
}

// P20.3: one that asks again and again has one question that waits, and one answer, to the last time that it asked.
func TestSureAgain(t *testing.T) {
	x := leader(t, true)
	for i := range 12 {
		if _, e := x.asks(4, 2, 8); e != api.OK {
			t.Fatal(i, e)
		}
	}
	if _, e := x.asks(4, 2, 8); e != api.ErrFull {
		t.Error(e)
	}
	if l := x.fed(1, 1, 11); answers(l) != "[]" {
		t.Error(answers(l))
	}
	if l := x.fed(1, 1, 12); answers(l) != "[4:2.8=1]" {
		t.Error(answers(l))
	}
}

// P20.3: questions that are alike but for one thing are others.
func TestSureAlike(t *testing.T) {
	x := leader(t, true)
	x.asks(1, 2, 3)
	x.asks(2, 2, 3)
	x.asks(1, 3, 3)
	x.asks(1, 2, 4)
	x.asks(1, 2, 3)
	if l := x.fed(2, 1, 9); answers(l) != "[2:2.3=1 1:3.3=1 1:2.4=1 1:2.3=1]" {
		t.Error(answers(l))
	}
}

// P20.2: who leads no more answers nothing that it was asked, also when it leads again.
func TestSureGone(t *testing.T) {
	x := leader(t, true)
	x.asks(1, 1, 1)
	x.asks(2, 1, 2)
	x.take(api.Msg{Kind: api.MVote, From: 7, To: 6, Term: 2})
	if x.m.View().Role != api.Follows {
		t.Fatal(x.m.View())
	}
	x.stands()
	x.fed(1, 2, 0)
	for i := range 12 {
		if _, e := x.asks(3, 1, i); e != api.OK {
			t.Fatal(i, e)
		}
	}
	want := ""
	for i := range 12 {
		want += fmt.Sprintf(" 3:1.%d=1", i)
	}
	if l := x.fed(1, 2, 99); answers(l) != "["+want[1:]+"]" {
		t.Error(answers(l))
	}
}

// P20.6: an answer has the chain as it is then.
func TestSureNew(t *testing.T) {
	x := leader(t, true)
	x.asks(5, 1, 1)
	x.tells(api.Command{Kind: api.CAgain, Node: 0, Epoch: 1})
	if l := x.fed(1, 2, 0); answers(l) != "[0:0.0=2 1:0.0=2 2:0.0=2 3:0.0=2 4:0.0=2 5:0.0=2]" {
		t.Error(answers(l))
	}
	if l := x.fed(2, 2, 1); answers(l) != "[5:1.1=2]" {
		t.Error(answers(l))
	}
}
