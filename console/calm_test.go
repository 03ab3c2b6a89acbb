package console_test

import (
	"fmt"
	"math/rand/v2"
	"slices"
	"strings"
	"testing"
)

// teller is somebody who knows of a world by what the console tells alone: each question is one more line of the text.
type teller struct {
	*testing.T
	*rand.Rand
	text string
	told []string
}

// say says lines: what each of them tells.
func (x *teller) say(l ...string) []string {
	x.Helper()
	x.text += strings.Join(l, "\n") + "\n"
	was := len(x.told)
	x.told = lines(x.T, x.text)
	return x.told[was:]
}

// member is a node, as chain tells it.
type member struct {
	node, site int
	fresh      bool
}

// members is a chain as it is told: its epoch, and who is in it.
func (x *teller) members(told string) (epoch string, l []member) {
	x.Helper()
	words := strings.Fields(told)
	for _, s := range words[2:] {
		m := member{fresh: strings.HasSuffix(s, "*")}
		if _, err := fmt.Sscanf(s, "%d@%d", &m.node, &m.site); err != nil {
			x.Fatal(told)
		}
		l = append(l, m)
	}
	return words[1], l
}

// lacks is what P5 asks for of the chain, and is not so as yet.
func (x *teller) lacks() ([]member, string) {
	x.Helper()
	told := x.say("chain", "show 0", "show 1", "show 2", "show 3", "show 4", "show 5")
	epoch, l := x.members(told[0])
	last := ""
	for i, m := range l {
		// node, its number, era, place, whole, table, committed, last, how many wait
		w := strings.Fields(told[1+m.node])
		if m.fresh || len(w) != 10 || w[2] != epoch || w[3] != fmt.Sprint(i) || w[4] != "1" || w[6] != w[7] || last != "" && w[7] != last {
			return nil, fmt.Sprintf("%v in %s, the head's last %s", w, told[0], last)
		}
		last = w[7]
	}
	return l, ""
}

// calm lets all run, all messages come, and time pass for one master and all nodes: its chain.
func (x *teller) calm() []member {
	x.Helper()
	var start []string
	for place := range 9 {
		if strings.Contains(x.text, fmt.Sprintf("\narm %d ", place)) {
			start = append(start, fmt.Sprintf("crash %d -1", place))
		}
		start = append(start, fmt.Sprintf("start %d %d", place, x.IntN(8)))
	}
	x.say(append(start, "wall 0", "carry 1000", "carry 1000")...)
	lead := x.leader()
	round := []string{fmt.Sprint("tick ", 6+lead, " 0"), "carry 1000"}
	for _, i := range x.Perm(6) {
		round = append(round, fmt.Sprintf("tick %d 0", i), "carry 1000")
	}
	why := ""
	for range 30 {
		x.say(round...)
		var l []member
		if l, why = x.lacks(); why == "" {
			return l
		}
		// One that led before may have got rows meanwhile that this one refused.
		if s := x.say(fmt.Sprint("lead ", lead))[0]; !strings.HasPrefix(s, "lead 2 ") {
			lead = x.leader()
			round[0] = fmt.Sprint("tick ", 6+lead, " 0")
		}
	}
	x.Fatalf("when all is calm: %s\n%s", why, x.text)
	return nil
}

// leader is a master that can lead, as its rows are as fresh as any; it does then.
func (x *teller) leader() int {
	x.Helper()
	for _, i := range x.Perm(3) {
		if s := x.say(fmt.Sprint("lead ", i))[0]; strings.HasPrefix(s, "lead 2 ") {
			return i
		}
	}
	x.Fatalf("nobody leads:\n%s", x.text)
	return 0
}

// call is one, as calls tells it.
type call struct {
	kind, key, began, ended, err, ver, value string
}

// calls is a client's, as they are told.
func (x *teller) calls(told string) []call {
	x.Helper()
	var l []call
	for _, s := range strings.Split(told, "; ")[1:] {
		w := strings.SplitN(s, " ", 7)
		if len(w) != 7 {
			x.Fatal(told)
		}
		l = append(l, call{w[0], w[1], w[2], w[3], w[4], w[5], w[6]})
	}
	return l
}

// asked has a call that is on its way end, and then a client write at the head, and read everywhere, in each mode.
func (x *teller) asked(client int, l []member) {
	x.Helper()
	ask := []string{fmt.Sprintf("again %d %d", client, l[0].node), "carry 1000", fmt.Sprintf("write %d %d a w%d", client, l[0].node, len(x.text)), "carry 1000"}
	for i, m := range l {
		ask = append(ask, fmt.Sprintf("read %d %d a %d 0", client, m.node, (client+i)%3), "carry 1000")
	}
	told := x.say(append(ask, fmt.Sprint("calls ", client))...)
	for i, s := range ask[2:] {
		if !strings.HasPrefix(s, "carry") && told[2+i] != "ok" {
			x.Fatalf("%s: %s\n%s", s, told[2+i], x.text)
		}
	}
	all := x.calls(told[len(ask)])
	all = all[len(all)-1-len(l):]
	for _, c := range all {
		if c.ended == "0" || c.err != "0" || c.ver != all[0].ver || c.value != all[0].value {
			x.Fatalf("%+v, behind %+v\n%s", c, all[0], x.text)
		}
	}
}

func (x *teller) judged() {
	x.Helper()
	if s := x.say("judge")[0]; !strings.HasSuffix(s, " true true true true") {
		x.Fatalf("%s\n%s", s, x.text)
	}
}

// kept is what nodes have committed of all keys: all of them the same.
func (x *teller) kept(l []member) []string {
	x.Helper()
	var ask []string
	for _, m := range l {
		ask = append(ask, fmt.Sprintf("of %d a", m.node), fmt.Sprintf("of %d b", m.node), fmt.Sprintf("of %d c", m.node))
	}
	told := x.say(ask...)
	for i, s := range told {
		if s != told[i%3] {
			x.Fatalf("%s: %s, not %s\n%s", ask[i], s, told[i%3], x.text)
		}
	}
	return told[:3]
}

// crash takes the power of all at once.
func (x *teller) crash() {
	x.Helper()
	var l []string
	for place := range 9 {
		l = append(l, fmt.Sprintf("crash %d %d", place, x.IntN(9)-1))
	}
	told := x.say(append(l, "chain", "carry 1000", "plan 1 1 1", "show 0", "of 5 a", "near 0")...)[9:]
	if told[0] != "chain 0" || !slices.Equal(told[2:], []string{"error 80", "error 50", "error 50", "error 80"}) {
		x.Fatal(told)
	}
}

// P1 to P5, as the console tells them: whatever has happened, when all is calm all is there, and everybody is answered; then all power goes at once, and all is there still.
func TestCalm(t *testing.T) {
	for seed := range uint64(24) {
		t.Run(fmt.Sprint(seed), func(t *testing.T) {
			t.Parallel()
			x := &teller{T: t, Rand: rand.New(rand.NewPCG(seed, 5)), text: walk(400+seed, 240).text}
			first := x.calm()
			for i := range 4 {
				x.asked(i, first)
			}
			x.judged()
			was := x.kept(first)
			x.crash()
			again := x.calm()
			if is := x.kept(again); !slices.Equal(again, first) || !slices.Equal(is, was) {
				t.Fatalf("%v: %v, and were %v: %v\n%s", again, is, first, was, x.text)
			}
			for i := range 4 {
				x.asked(i, again)
			}
			x.judged()
		})
	}
}
