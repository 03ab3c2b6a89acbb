package console_test

import (
	"math/rand/v2"
	"slices"
	"strings"
	"testing"

	"towline/api"
	"towline/console"
)

// walk plays lines, mood by mood, as the plain one does.
func walk(seed uint64, lines int) maker {
	r := rand.New(rand.NewPCG(seed, 25))
	x := maker{Rand: r, plain: newPlain(first(r))}
	if r.IntN(5) > 0 {
		x.line("lead 0")
	}
	for i := range lines {
		x.line(x.next(moods[(int(seed)+i/80)%len(moods)]))
	}
	return x
}

// lines is a report, line by line.
func lines(t *testing.T, text string) []string {
	t.Helper()
	s, at, e := console.Run(text)
	if e != api.OK || at != 0 || s != "" && !strings.HasSuffix(s, "\n") {
		t.Fatalf("%q: %q, %d, %d", text, s, at, e)
	}
	l := strings.Split(s, "\n")
	return l[:len(l)-1]
}

// P25.1, P25.2, P25.5: a plain model of the chapter's words is held against the report of texts; wherever judge is asked, all is so.
func TestModel(t *testing.T) {
	t.Parallel()
	counts := map[string]int{}
	for seed := range uint64(50) {
		x := walk(seed, 1500)
		got := lines(t, x.text)
		asked := slices.DeleteFunc(strings.Split(x.text, "\n"), func(s string) bool { return s == "" || strings.HasPrefix(s, "member") })
		if len(got) != len(x.report) {
			t.Fatal(seed, len(got), len(x.report))
		}
		for i, s := range got {
			if s != x.report[i] {
				t.Fatalf("%d: line %d, %q: %q, not %q", seed, i, asked[i], s, x.report[i])
			}
			w, _, _ := strings.Cut(asked[i], " ")
			told := strings.Fields(s)
			if told[0] == "error" || told[0] == "ok" {
				w += " " + s
			}
			counts[w]++
			if told[0] == "judge" && !strings.HasSuffix(s, " true true true true") {
				t.Fatalf("%d: line %d: %s", seed, i, s)
			}
			counts["star"] += strings.Count(s, "*")
			counts["records"] = max(counts["records"], len(x.seen))
		}
	}
	for _, s := range []string{
		"take ok", "take error 40", "take error 50", "take error 150", "take error 153", "lose ok", "lose error 40", "double ok", "double error 40", "wall ok",
		"tick ok", "tick error 1", "tick error 50", "tick error 190", "start ok", "start error 1", "start error 190", "crash ok", "crash error 190", "arm ok", "arm error 190",
		"write ok", "write error 180", "write error 190", "read ok", "read error 1", "read error 180", "read error 190", "again ok", "again error 92", "drop ok", "drop error 92", "drop error 190",
		"fresh ok", "fresh error 180", "fresh error 190", "join ok", "join error 190", "dead ok", "dead error 190", "anew ok", "site ok",
		"carry", "carry error 1", "lead", "lead error 190", "show", "show error 50", "calls", "calls error 1", "of", "of error 50", "chain", "judge", "net",
		"peek", "peek error 40", "plan", "plan error 1", "near", "near error 1", "star",
	} {
		if counts[s] == 0 {
			t.Errorf("no line that tells: %s", s)
		}
	}
	if counts["records"] <= api.MaxTail {
		t.Error(counts["records"])
	}
}

// P25.3: the report of a text's first lines is a beginning of the report.
func TestFronts(t *testing.T) {
	t.Parallel()
	for seed := range uint64(4) {
		x := walk(100+seed, 160)
		all, _, _ := console.Run(x.text)
		l := strings.SplitAfter(x.text, "\n")
		members := strings.Count(x.text, "member")
		for n := members; n < len(l); n += 7 {
			s, at, e := console.Run(strings.Join(l[:n], ""))
			if e != api.OK || at != 0 || !strings.HasPrefix(all, s) || strings.Count(s, "\n") != n-members {
				t.Fatal(seed, n, at, e)
			}
		}
	}
}

// P25.4: lines that say nothing change nothing.
func TestSilent(t *testing.T) {
	t.Parallel()
	for seed := range uint64(6) {
		x := walk(200+seed, 200)
		l := strings.Split(x.text, "\n")
		for range 40 {
			l = slices.Insert(l, x.IntN(len(l)+1), []string{"", "#", "# lead 0", "#write 0 0 a x", "#\xff"}[x.IntN(5)])
		}
		if got, want := lines(t, strings.Join(l, "\n")), lines(t, x.text); !slices.Equal(got, want) {
			t.Fatal(seed)
		}
	}
}

// P25.5: judge behind every line, in the midst of all that happens.
func TestExplained(t *testing.T) {
	t.Parallel()
	for seed := range uint64(20) {
		x := walk(300+seed, 400)
		text := strings.ReplaceAll(x.text, "\n", "\njudge\n")
		at := strings.LastIndex(text, "member")
		text = strings.ReplaceAll(text[:at], "judge\n", "") + text[at:]
		last := 0
		for i, s := range lines(t, text) {
			if !strings.HasPrefix(s, "judge ") {
				continue
			}
			many, all, _ := strings.Cut(strings.TrimPrefix(s, "judge "), " ")
			n := number(t, many)
			if all != "true true true true" || n < last {
				t.Fatalf("%d: line %d: %s, behind %d", seed, i, s, last)
			}
			last = n
		}
	}
}

// P25.2, DOC.md (ends): numbers at and beyond all edges, behind every word.
func TestWild(t *testing.T) {
	t.Parallel()
	wild := strings.Fields("-999999999 -7 -6 -1 0 1 2 3 5 6 8 9 12 13 31 32 999 1000 1001 999999999")
	for seed := range uint64(20) {
		r := rand.New(rand.NewPCG(seed, 26))
		x := maker{Rand: r, plain: newPlain(first(r))}
		x.line("lead 0")
		for range 300 {
			w := words[r.IntN(len(words))]
			if w == "lead" && r.IntN(4) > 0 {
				continue
			}
			rest := strings.Fields(x.rest(w))
			for i := range rest {
				if !strings.ContainsAny(rest[i], "abcv") && r.IntN(3) > 0 {
					rest[i] = wild[r.IntN(len(wild))]
				}
			}
			x.line(strings.Join(append([]string{w}, rest...), " "))
		}
		if got := lines(t, x.text); !slices.Equal(got, x.report) {
			for i := range got {
				if got[i] != x.report[i] {
					t.Fatalf("%d: line %d: %s, not %s", seed, i, got[i], x.report[i])
				}
			}
		}
	}
}
