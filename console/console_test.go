package console_test

import (
	"fmt"
	"strconv"
	"strings"
	"testing"

	"towline/api"
	"towline/console"
)

func number(t *testing.T, s string) int {
	t.Helper()
	n, err := strconv.Atoi(s)
	if err != nil {
		t.Fatal(err)
	}
	return n
}

// played plays a tale: its lines, each with what it should tell behind a bar (ok, or whatever it is, without one).
func played(t *testing.T, tale string) {
	t.Helper()
	var text string
	var asked, want []string
	for s := range strings.Lines(tale) {
		line, told, there := strings.Cut(strings.TrimSpace(s), " | ")
		text += line + "\n"
		if line == "" || strings.HasPrefix(line, "#") || strings.HasPrefix(line, "member") {
			continue
		}
		if !there && !strings.Contains(" carry lead ", " "+strings.Fields(line)[0]+" ") {
			told, there = "ok", true
		}
		if !there {
			told = "?"
		}
		asked, want = append(asked, line), append(want, told)
	}
	got := lines(t, text)
	if len(got) != len(want) {
		t.Fatalf("%d lines are told, not %d", len(got), len(want))
	}
	for i, s := range got {
		if want[i] != "?" && s != want[i] {
			t.Errorf("line %d, %s: %s, not %s", i+1, asked[i], s, want[i])
		}
	}
}

// P25.1: what has no report: the line that is none, the chain that can't be, too long a text.
func TestNoReport(t *testing.T) {
	for text, want := range map[string]struct {
		at int
		e  api.Errno
	}{
		"":                                 {0, api.ErrChain},
		"lead 0\n":                         {0, api.ErrChain},
		"member 6 0\nlead 0":               {0, api.ErrChain},
		"member 0 0\nmember 0 1":           {0, api.ErrChain},
		"member 0 0\nfly":                  {2, api.ErrLine},
		"member 0 0\nlead 0\n\nlead\n":     {4, api.ErrLine},
		"member 9 9\nlead 0\nlead x\nfly":  {3, api.ErrLine},
		"member 0 0\nlead 0\nmember 1 1\n": {3, api.ErrLine},
		"member 0 0\n#" + strings.Repeat("x", 1<<15): {0, api.ErrLong},
		strings.Repeat("fly\n", 1<<14):               {0, api.ErrLong},
	} {
		if s, at, e := console.Run(text); s != "" || at != want.at || e != want.e {
			t.Errorf("%.40q: %q, %d, %d", text, s, at, e)
		}
	}
	for _, text := range []string{"member 0 0", "member 0 0\n", "#\nmember 5 2\n\nmember 0 0\n# lead 0\n"} {
		if s, at, e := console.Run(text); s != "" || at != 0 || e != api.OK {
			t.Errorf("%q: %q, %d, %d", text, s, at, e)
		}
	}
	if s, at, e := console.Run("member 0 0\nnet"); s != "net 0\n" || at != 0 || e != api.OK {
		t.Errorf("%q, %d, %d", s, at, e)
	}
}

// P25.1: a text of just so many bytes as may be is played, all of it.
func TestLongest(t *testing.T) {
	text := "member 0 0\nlead 0\nwrite 0 0 a x\ncarry 1000\n"
	for len(text) < api.MaxScript-16 {
		text += "chain\n"
	}
	text += "#" + strings.Repeat("x", api.MaxScript-len(text)-7) + "\njudge"
	l := lines(t, text)
	if len(text) != api.MaxScript || len(l) < 5000 || l[len(l)-1] != "judge 1 true true true true" {
		t.Error(len(text), len(l), l[len(l)-1])
	}
}

// P25.2: what each line tells, to its edges, of a world in which little has happened.
func TestTold(t *testing.T) {
	played(t, `
		member 3 1
		member 0 0
		member 1 0
		net | net 0
		chain | chain 1 0@0 1@0 3@1
		judge | judge 0 true true true true
		show 0 | node 0 0 -1 0 0 0 0 0 0
		show 5 | node 5 0 -1 0 0 0 0 0 0
		show -1 | error 50
		show 6 | error 50
		of 0 a | of a 0 0 ""
		of 6 a | error 50
		of -1 a | error 50
		calls 0 | calls
		calls 3 | calls
		calls 4 | error 1
		calls -1 | error 1
		carry 0 | carried 0
		carry 1000 | carried 0
		carry 1001 | error 1
		carry -1 | error 1
		peek 0 1 0 | error 40
		peek 0 0 0 | error 40
		peek 32 -1 -1 | error 40
		near 0 | near 20 0 1 3
		near 1 | near 40 3 0 1
		near 2 | near 70 3 0 1
		near 3 | error 1
		near -1 | error 1
		plan 0 0 0 | plan chain 1 0@0 1@0 3@1
		plan 2 2 1 | plan join 2 1 1; join 4 2 2; chain 3 0@0 1@0 3@1 2@1 4@2
		plan 7 0 0 | error 1
		plan 0 -1 0 | error 1
		plan 6 6 6 | plan join 2 1 1; join 4 2 2; join 5 2 3; chain 4 0@0 1@0 3@1 2@1 4@2 5@2
		tick 9 0 | error 190
		tick 0 0
		again 0 0 | error 92
		drop 0 | error 92
		write 4 0 a x | error 190
		write 0 6 a x | error 1
		read 0 0 a 3 0 | error 1
		start 0 0 | error 190
		fresh 3
		net | net 0
		write 0 1 key é"é
		write 0 1 key x | error 180
		net | net 0 9>1:1
		peek 9 1 0 | write 9>1 req=0.1 key=6b6579 value=c3a922c3a9
		peek 9 1 1 | error 40
		double 9 1 0
		double 9 1 0
		net | net 0 9>1:3
		lose 9 1 2
		lose 9 1 2 | error 40
		carry 1 | carried 1
		net | net 0 1>9:1 9>1:1
		peek 1 9 0 | done 1>9 err=152 req=0.1
		calls 0 | calls; write key 10 0 0 0 "é"é"
		drop 0
		read 0 5 k 1 7
		calls 0 | calls; write key 10 0 0 0 "é"é"; read k 18 0 0 0 ""
		judge | judge 0 true true true true
	`)
}

// P25.2: carry takes the first message of the first link, whatever becomes of it, and counts each.
func TestCarry(t *testing.T) {
	played(t, `
		member 0 0
		write 1 5 a x
		write 0 4 a x
		again 0 4
		read 2 0 b 2 0
		crash 4 -1
		wall 32
		net | net 0 9>4:2 10>5:1 11>0:1
		# nobody takes the first ones; the wall keeps the third
		carry 2 | carried 2
		net | net 0 10>5:1 11>0:1
		carry 1 | carried 1
		net | net 0 11>0:1
		carry 1 | carried 1
		net | net 0 0>11:1
		carry 9 | carried 1
		carry 9 | carried 0
		calls 2 | calls; read b 4 11 0 0 ""
	`)
}

// P25.2: a message that finds no room is lost, and counted.
func TestLost(t *testing.T) {
	played(t, "member 0 0\nwrite 0 0 a x\n"+strings.Repeat("again 0 0\n", 7)+`
		net | net 0 9>0:8
		again 0 0
		again 0 0
		net | net 2 9>0:8
		double 9 0 0 | error 7
		net | net 2 9>0:8
		lose 9 0 7
		again 0 0
		net | net 2 9>0:8
	`)
}

// P25.2: lead lets time pass for a master until it leads, and once more then; it ends behind twelve times, or at an error.
func TestLead(t *testing.T) {
	played(t, `
		member 0 0
		lead 0 | lead 2 1 1 1
		show 0 | node 0 1 0 1 0 0 0 0 0
		# it leads: time passes once, ahead of 10 messages
		write 0 5 a x
		drop 0
		lose 9 5 0
		lead 0 | lead 2 1 1 1
		write 0 5 a x
		calls 0 | calls; write a 24 0 0 0 "x"; write a 38 0 0 0 "x"
		lead 2 | lead 2 2 2 2
		lead 0 | lead 2 3 3 3
		lead 3 | error 190
		lead 999999999 | error 190
		lead -999999999 | error 190
		crash 7 -1
		lead 1 | error 190
		# the time of node 5, and of none, which is no master
		lead -1 | lead 0 0 0 0
		crash 5 -1
		lead -1 | error 190
		start 5 0
		start 7 0
		wall 64
		lead 1 | lead 2 4 4 4
	`)
	played(t, `
		member 0 0
		# master 0 is parted from all others: time passes twelve times, and it stands at each fourth one
		wall 64
		lead 0 | lead 1 3 0 0
		net | net 0
		write 0 0 a x
		calls 0 | calls; write a 20 0 0 0 "x"
		lose 9 0 0
		wall 0
		lead 0 | lead 2 4 1 1
	`)
	// The power goes as it stands, and as it takes what makes it lead.
	played(t, `
		member 0 0
		arm 6 3 -1
		lead 0 | error 50
		lead 0 | error 190
		start 6 0
		lead 0
		chain | chain 1 0@0
		crash 6 -1
		crash 7 -1
		chain | chain 1 0@0
		crash 8 -1
		chain | chain 0
		near 0 | error 80
		plan 0 0 0 | error 80
	`)
	// The power of one that leads goes as it takes a command, behind the last time.
	played(t, `
		member 0 0
		member 1 1
		lead 0 | lead 2 1 1 1
		dead 1 0 1
		arm 6 3 -1
		lead 0 | lead 0 0 0 0
		lead 0 | error 190
	`)
}

// P25.2: of all that is on its way 200 messages come at each time.
func TestLeadCarries(t *testing.T) {
	tale := "member 0 0\nlead 0\n"
	for client := range 4 {
		for i := range 40 {
			word, rest := "again", ""
			if i == 0 {
				word, rest = "read", " a 0 0"
			}
			tale += fmt.Sprintf("%s %d %d%s\n", word, client, 1+i%5, rest)
		}
	}
	// 160 reads at nodes that are in no chain, as many answers; and of the masters 2 messages, their answers, and the chain to 6 nodes.
	played(t, tale+`
		lead 0 | lead 2 1 1 1
		carry 1000 | carried 130
		net | net 0
	`)
}

// P25.2: records count that were seen behind any step, also those that are in tables now, or lost with the power.
func TestSeen(t *testing.T) {
	tale := "member 0 0\nmember 1 1\nlead 0\n"
	for i := range 60 {
		tale += "write " + strconv.Itoa(i%4) + " 0 " + string(rune('a'+i%5)) + " v" + strconv.Itoa(i) + "\ncarry 1000\njudge | judge " + strconv.Itoa(i+1) + " true true true true\n"
	}
	played(t, tale+`
		crash 0 -1
		crash 1 -1
		judge | judge 60 true true true true
		show 0 | error 50
		start 0 0
		start 1 0
		judge | judge 60 true true true true
	`)
}
