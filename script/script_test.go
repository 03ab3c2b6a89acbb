package script_test

import (
	"fmt"
	"math"
	"math/rand/v2"
	"slices"
	"strings"
	"testing"

	"towline/api"
	"towline/script"
)

// one is a first chain, so that what stands behind it can be told.
const one = "member 0 0\n"

// line is the one line behind a first chain.
func line(t *testing.T, s string) api.Line {
	t.Helper()
	_, l, at, e := script.Parse(one + s)
	if e != api.OK || at != 0 || len(l) != 1 {
		t.Fatalf("%q: %v, %d, %d", s, l, at, e)
	}
	return l[0]
}

// P24.1: each word, with what stands behind it.
func TestWords(t *testing.T) {
	for s, want := range map[string]api.Line{
		"again 1 2":        {Word: "again", N: []int{1, 2}},
		"start 1 2":        {Word: "start", N: []int{1, 2}},
		"crash 1 -2":       {Word: "crash", N: []int{1, -2}},
		"tick 1 2":         {Word: "tick", N: []int{1, 2}},
		"write 1 2 key x":  {Word: "write", N: []int{1, 2}, Key: keyOf("key"), Value: "x"},
		"write 1 2 7 8":    {Word: "write", N: []int{1, 2}, Key: keyOf("7"), Value: "8"},
		"write 1 2 # #":    {Word: "write", N: []int{1, 2}, Key: keyOf("#"), Value: "#"},
		"read 1 2 key 3 4": {Word: "read", N: []int{1, 2, 3, 4}, Key: keyOf("key")},
		"drop 1":           {Word: "drop", N: []int{1}},
		"fresh 1":          {Word: "fresh", N: []int{1}},
		"wall 1":           {Word: "wall", N: []int{1}},
		"carry 1":          {Word: "carry", N: []int{1}},
		"show 1":           {Word: "show", N: []int{1}},
		"calls 1":          {Word: "calls", N: []int{1}},
		"lead 1":           {Word: "lead", N: []int{1}},
		"near 1":           {Word: "near", N: []int{1}},
		"take 1 2 3":       {Word: "take", N: []int{1, 2, 3}},
		"lose 1 2 3":       {Word: "lose", N: []int{1, 2, 3}},
		"double 1 2 3":     {Word: "double", N: []int{1, 2, 3}},
		"arm 1 2 3":        {Word: "arm", N: []int{1, 2, 3}},
		"dead 1 2 3":       {Word: "dead", N: []int{1, 2, 3}},
		"site 1 2 3":       {Word: "site", N: []int{1, 2, 3}},
		"join 1 2 3":       {Word: "join", N: []int{1, 2, 3}},
		"anew 1 2 3":       {Word: "anew", N: []int{1, 2, 3}},
		"peek 1 2 3":       {Word: "peek", N: []int{1, 2, 3}},
		"plan 1 2 3":       {Word: "plan", N: []int{1, 2, 3}},
		"of 1 k":           {Word: "of", N: []int{1}, Key: keyOf("k")},
		"chain":            {Word: "chain"},
		"judge":            {Word: "judge"},
		"net":              {Word: "net"},
	} {
		if l := line(t, s); !sameLine(l, want) {
			t.Errorf("%q: %+v", s, l)
		}
		if got := script.Text(want); got != s {
			t.Errorf("%q: %q", s, got)
		}
	}
	if got := script.Text(api.Line{Word: "member", N: []int{5, 2}}); got != "member 5 2" {
		t.Error(got)
	}
}

// P24.1: numbers, keys and values to their edges.
func TestEdges(t *testing.T) {
	for s, n := range map[string]int{"0": 0, "9": 9, "-1": -1, "10": 10, "999999999": 999999999, "-999999999": -999999999, "100000000": 100000000} {
		if l := line(t, "wall "+s); l.N[0] != n {
			t.Error(s, l)
		}
	}
	for _, k := range []string{"a", "abcdefgh", "!", "\u0080", "éééé", "日本", "\U0010ffff\U0001d11e", "\ufffd", "~", "\u00a0"} {
		if l := line(t, "of 0 "+k); l.Key != keyOf(k) {
			t.Error(k, l)
		}
	}
	for _, v := range []string{"x", strings.Repeat("x", 24), strings.Repeat("é", 12), strings.Repeat("日", 8), "!", "~", "\u0080", "\ufffd", "\""} {
		if l := line(t, "write 0 0 a "+v); l.Value != v {
			t.Error(v, l)
		}
	}
	for _, s := range []string{
		// numbers
		"wall", "wall ", "wall -", "wall -0", "wall 00", "wall 01", "wall -01", "wall +1", "wall 1000000000", "wall -1000000000", "wall 0000000001", "wall 99999999999999999999",
		"wall 1 ", "wall  1", "wall 1 2", "wall a", "wall 1a", "wall 0x1", "wall 1_0", "wall 1.0", "wall ٣", "wall --1", "wall\t1", "wall 1\r", "wall 1\x00",
		// keys
		"of 0", "of 0 ", "of 0 abcdefghi", "of 0 日本語", "of 0 \xff", "of 0 a\x80", "of 0 \x00", "of 0 a\x00", "of 0 \x1f", "of 0 \x7f", "of 0 a\x7fb", "of 0 a\tb", "of 0 a b", "of k", "of k 0", "of 0 \xed\xa0\x80",
		// values
		"write 0 0 a", "write 0 0 a ", "write 0 0 a x ", "write 0 0 a  x", "write 0 0 a x y", "write 0 0  x", "write 0 0 x", "write 0 a x", "write a x 0 0", "write 0 0 abcdefghi x",
		"write 0 0 a " + strings.Repeat("x", 25), "write 0 0 a " + strings.Repeat("é", 12) + "x", "write 0 0 a \xff", "write 0 0 a x\x00", "write 0 0 a \x1f", "write 0 0 a x\x7f", "write 0 0 a x\ty",
		// counts
		"read 0 0 a 0", "read 0 0 a 0 0 0", "read 0 0 0 0 a", "read 0 0 a", "chain 0", "judge 0", "net ", "take 0 0", "take 0 0 0 0", "tick 0", "tick 0 0 0", "plan 0 0", "member", "member 0", "member 0 0 0",
		// words
		"fly", "Chain", "CHAIN", "chain\r", " chain", "\tchain", " ", "  ", " #", "nets", "ne", "n", "take0 0 0", "step", "go 0", "writ 0 0 a x", "\x00", "\xff", "chain\x00",
		strings.Repeat("x", 200), "chain" + strings.Repeat(" ", 195), "chain" + strings.Repeat(" ", 196), "wall " + strings.Repeat("0", 300), "write 0 0 a " + strings.Repeat("x", 1000),
	} {
		if f, l, at, e := script.Parse(one + s); len(f) != 0 || len(l) != 0 || at != 2 || e != api.ErrLine {
			t.Errorf("%q: %v, %v, %d, %d", s, f, l, at, e)
		}
	}
}

// P24.1: up to 2^15 bytes, whatever they are; above that nothing else is asked.
func TestLong(t *testing.T) {
	for size, want := range map[int]api.Errno{32767: api.OK, 32768: api.OK, 32769: api.ErrLong, 1 << 20: api.ErrLong} {
		text := one + "#" + strings.Repeat("x", size-len(one)-1)
		if f, l, at, e := script.Parse(text); e != want || at != 0 || len(l) != 0 || (len(f) == 1) != (want == api.OK) {
			t.Error(size, f, l, at, e)
		}
	}
	if f, l, at, e := script.Parse("fly\n" + strings.Repeat("fly\n", 1<<13)); len(f)+len(l)+at != 0 || e != api.ErrLong {
		t.Error(f, l, at, e)
	}
	if _, l, _, e := script.Parse(one + strings.Repeat("net\n", 8189)); e != api.OK || len(l) != 8189 {
		t.Error(len(l), e)
	}
}

// P24.1: of several errors the first one; members stand ahead of all others; the chain is asked behind all lines.
func TestFirstError(t *testing.T) {
	for text, want := range map[string]struct {
		at int
		e  api.Errno
	}{
		"":                                  {0, api.ErrChain},
		"\n\n":                              {0, api.ErrChain},
		"# member 0 0":                      {0, api.ErrChain},
		"chain":                             {0, api.ErrChain},
		"chain\nmember 0 0":                 {2, api.ErrLine},
		"fly\nmember 0 0":                   {1, api.ErrLine},
		"member 0 0\nchain\nmember 1 1":     {3, api.ErrLine},
		"member 0 0\nchain\nmember 1":       {3, api.ErrLine},
		"member 6 0":                        {0, api.ErrChain},
		"member -1 0":                       {0, api.ErrChain},
		"member 0 3":                        {0, api.ErrChain},
		"member 0 -1":                       {0, api.ErrChain},
		"member 0 0\nmember 0 1":            {0, api.ErrChain},
		"member 0 0\nmember 0 1\nfly\nfly":  {3, api.ErrLine},
		"member 9 9\nchain\n\n#\n chain":    {5, api.ErrLine},
		"member 0 0\n\n\nchain\nfly\nmembe": {5, api.ErrLine},
		"member 0 0\nchain\n\nfly":          {4, api.ErrLine},
		"member 0 0\r\nchain":               {1, api.ErrLine},
		"member 0 0 chain":                  {1, api.ErrLine},
		"\x00":                              {1, api.ErrLine},
	} {
		if f, l, at, e := script.Parse(text); len(f) != 0 || len(l) != 0 || at != want.at || e != want.e {
			t.Errorf("%q: %v, %v, %d, %d", text, f, l, at, e)
		}
	}
}

// P24.1: members come as they were told, in that order.
func TestMembers(t *testing.T) {
	f, l, at, e := script.Parse("#\nmember 5 2\n\nmember 0 0\n# x\nmember 3 2\nmember 1 0")
	want := []api.Member{{Node: 5, Site: 2}, {Node: 0}, {Node: 3, Site: 2}, {Node: 1}}
	if e != api.OK || at != 0 || len(l) != 0 || !slices.Equal(f, want) {
		t.Error(f, l, at, e)
	}
}

// P24.2: what has no text.
func TestNoText(t *testing.T) {
	k := keyOf("a")
	for i, l := range []api.Line{
		{}, {Word: "fly"}, {Word: "Chain"}, {Word: "chain "}, {Word: " chain"}, {Word: "#"}, {Word: "wall 1"}, {Word: "chain\nchain"}, {Word: "chain\n"},
		{Word: "chain", N: []int{0}}, {Word: "chain", Key: k}, {Word: "chain", Value: "x"}, {Word: "net", N: []int{1, 2}}, {Word: "judge", Value: "\xff"},
		{Word: "wall"}, {Word: "wall", N: []int{1, 2}}, {Word: "wall", N: []int{1}, Key: k}, {Word: "wall", N: []int{1}, Value: "x"}, {Word: "wall", N: []int{1}, Key: api.Key{7: 1}},
		{Word: "wall", N: []int{1000000000}}, {Word: "wall", N: []int{-1000000000}}, {Word: "wall", N: []int{math.MaxInt}}, {Word: "wall", N: []int{math.MinInt}}, {Word: "wall", N: make([]int, 1000)},
		{Word: "member"}, {Word: "member", N: []int{0}}, {Word: "member", N: []int{0, 0, 0}}, {Word: "take", N: []int{0, 0}}, {Word: "take", N: []int{0, 0, 0, 0}},
		{Word: "of", N: []int{0}}, {Word: "of", Key: k}, {Word: "of", N: []int{0}, Key: k, Value: "x"}, {Word: "of", N: []int{0, 0}, Key: k},
		{Word: "of", N: []int{0}, Key: api.Key{'a', 0, 'b'}}, {Word: "of", N: []int{0}, Key: api.Key{0, 'b'}}, {Word: "of", N: []int{0}, Key: api.Key{0xff}}, {Word: "of", N: []int{0}, Key: keyOf("a b")},
		{Word: "of", N: []int{0}, Key: keyOf(" ")}, {Word: "of", N: []int{0}, Key: keyOf("\n")}, {Word: "of", N: []int{0}, Key: keyOf("a\x7f")}, {Word: "of", N: []int{0}, Key: keyOf("\x1f")},
		{Word: "write", N: []int{0, 0}, Key: k}, {Word: "write", N: []int{0, 0}, Value: "x"}, {Word: "write", N: []int{0}, Key: k, Value: "x"}, {Word: "write", N: []int{0, 0, 0}, Key: k, Value: "x"},
		{Word: "write", N: []int{0, 0}, Key: k, Value: " "}, {Word: "write", N: []int{0, 0}, Key: k, Value: "x y"}, {Word: "write", N: []int{0, 0}, Key: k, Value: "x\ny"}, {Word: "write", N: []int{0, 0}, Key: k, Value: "\xff"},
		{Word: "write", N: []int{0, 0}, Key: k, Value: "x\x7f"}, {Word: "write", N: []int{0, 0}, Key: k, Value: strings.Repeat("x", 25)}, {Word: "write", N: []int{0, 0}, Key: k, Value: strings.Repeat("x", 1<<16)},
		{Word: "read", N: []int{0, 0, 0}, Key: k}, {Word: "read", N: []int{0, 0, 0, 0}}, {Word: "read", N: []int{0, 0, 0, 0, 0}, Key: k}, {Word: "read", N: []int{0, 0, 0, 0}, Key: k, Value: "x"},
	} {
		if s := script.Text(l); s != "" {
			t.Errorf("%d, %+v: %q", i, l, s)
		}
		if s, e := script.Print([]api.Member{{}}, []api.Line{{Word: "net"}, l}); s != "" || e != api.ErrLine {
			t.Errorf("%d, %+v: %q, %d", i, l, s, e)
		}
	}
}

// P24.2: what Print refuses, the first error first.
func TestPrintErrors(t *testing.T) {
	good, bad := []api.Member{{Node: 2, Site: 1}, {Node: 0}}, []api.Line{{Word: "fly"}}
	many := slices.Repeat([]api.Line{{Word: "net"}}, 9000)
	for _, first := range [][]api.Member{nil, {{Node: 6}}, {{Node: -1}}, {{Site: 3}}, {{}, {}}, {{Fresh: true}}, {{}, {Node: 1, Fresh: true}}, {{Node: math.MaxInt}}} {
		for _, l := range [][]api.Line{nil, bad, many} {
			if s, e := script.Print(first, l); s != "" || e != api.ErrChain {
				t.Error(first, s, e)
			}
		}
	}
	for _, l := range [][]api.Line{bad, slices.Concat(many, bad), {{Word: "member", N: []int{1, 1}}}, {{Word: "net"}, {Word: "member", N: []int{1, 1}}}} {
		if s, e := script.Print(good, l); s != "" || e != api.ErrLine {
			t.Error(s, e)
		}
	}
	if s, e := script.Print(good, many); s != "" || e != api.ErrLong {
		t.Error(len(s), e)
	}
	if s, e := script.Print(good, nil); s != "member 2 1\nmember 0 0\n" || e != api.OK {
		t.Error(s, e)
	}
	// 22 bytes of members, 4 of each net, so that 2^15 is met just so with one more line.
	most := append(many[:8185:8185], api.Line{Word: "drop", N: []int{0}}) // 22 + 32740 + 7 = 32769
	if s, e := script.Print(good, most); s != "" || e != api.ErrLong {
		t.Error(len(s), e)
	}
	most[8185] = api.Line{Word: "chain"}
	if s, e := script.Print(good, most); len(s) != 32768 || e != api.OK {
		t.Error(len(s), e)
	}
}

// P24.4: what is printed is parsed as it was.
func TestThereAndBack(t *testing.T) {
	x := maker{rand.New(rand.NewPCG(24, 4))}
	printed := 0
	for range 20000 {
		first, lines, _, e := script.Parse(x.text())
		if e != api.OK {
			continue
		}
		s, e := script.Print(first, lines)
		if e != api.OK {
			t.Fatal(first, lines, e)
		}
		f, l, at, e := script.Parse(s)
		if e != api.OK || at != 0 || !slices.Equal(f, first) || !slices.EqualFunc(l, lines, sameLine) {
			t.Fatalf("%q: %v, %v, %d, %d", s, f, l, at, e)
		}
		printed++
	}
	if printed < 3000 {
		t.Error(printed)
	}
}

// P24.5: a text's lines up to one that is none are lines.
func TestFronts(t *testing.T) {
	x := maker{rand.New(rand.NewPCG(24, 5))}
	cut := 0
	for range 20000 {
		text := x.text()
		_, _, at, e := script.Parse(text)
		l := strings.Split(text, "\n")
		if e == api.ErrLine {
			cut++
			l = l[:at-1]
		}
		for n := range len(l) + 1 {
			if _, _, at, e := script.Parse(strings.Join(l[:n], "\n")); at != 0 || e != api.OK && e != api.ErrChain {
				t.Fatalf("%q, %d lines: %d, %d", text, n, at, e)
			}
		}
	}
	if cut < 3000 {
		t.Error(cut)
	}
}

// P24.6: lines that say nothing change nothing but numbers of lines.
func TestSilent(t *testing.T) {
	x := maker{rand.New(rand.NewPCG(24, 6))}
	for range 20000 {
		text := x.text()
		first, lines, at, e := script.Parse(text)
		l := strings.Split(text, "\n")
		for range 3 {
			n := x.IntN(len(l) + 1)
			l = slices.Insert(l, n, pick(x, []string{"", "#", "# x", "#member 0 0", "#\xff\x00 ", "#" + strings.Repeat("-", 400)}))
			if at > n {
				at++
			}
		}
		f, m, at2, e2 := script.Parse(strings.Join(l, "\n"))
		if e2 != e || at2 != at || !slices.Equal(f, first) || !slices.EqualFunc(m, lines, sameLine) {
			t.Fatalf("%q: %v, %v, %d, %d", l, f, m, at2, e2)
		}
	}
}

// DOC.md, memory: what is answered shares nothing; what is handed in stays as it was.
func TestMemory(t *testing.T) {
	text := one + "member 1 1\nmember 2 2\ntake 1 2 3\nread 1 2 a 3 4\nwall 7\ntick 1 2"
	f, l, _, _ := script.Parse(text)
	f2, l2, _, _ := script.Parse(text)
	want := fmt.Sprint(f2, l2)
	for i := range l {
		n := l[i].N
		for j := range n[:cap(n)] {
			n[:cap(n)][j] = 99
		}
		for j := range l {
			if j > i && slices.Contains(l[j].N, 99) {
				t.Errorf("the lines %d and %d share memory", i, j)
			}
		}
	}
	for i := range f[:cap(f)] {
		f[:cap(f)][i].Node = 99
	}
	if got := fmt.Sprint(f2, l2); got != want {
		t.Error(got)
	}
	numbers := []int{1, 2, 77, 78}
	x := api.Line{Word: "tick", N: numbers[:2]}
	members := []api.Member{{Node: 5, Site: 2}, {Node: 1}, {Node: 77}}
	script.Text(x)
	script.Step(x)
	script.Print(members[:2], []api.Line{x})
	if !slices.Equal(numbers, []int{1, 2, 77, 78}) || !slices.Equal(members, []api.Member{{Node: 5, Site: 2}, {Node: 1}, {Node: 77}}) {
		t.Error(numbers, members)
	}
}
