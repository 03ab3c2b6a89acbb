package script_test

import (
	"fmt"
	"math/rand/v2"
	"regexp"
	"slices"
	"strconv"
	"strings"
	"testing"
	"unicode/utf8"

	"towline/api"
	"towline/script"
)

// forms is the chapter's table: N stands for a number, K for a key, V for a value.
var forms = strings.Split("member N N|again N N|start N N|crash N N|tick N N|write N N K V|read N N K N N|"+
	"drop N|fresh N|wall N|carry N|show N|calls N|lead N|near N|"+
	"take N N N|lose N N N|double N N N|arm N N N|dead N N N|site N N N|join N N N|anew N N N|peek N N N|plan N N N|"+
	"of N K|chain|judge|net", "|")

const aNumber = `(0|-?[1-9][0-9]{0,8})`

// patterns is the forms, as patterns of whole lines.
var patterns = func() []*regexp.Regexp {
	var l []*regexp.Regexp
	for _, f := range forms {
		p := strings.NewReplacer("N", aNumber, "K", `([^\x00-\x20\x7f]+)`, "V", `([^\x00-\x20\x7f]+)`).Replace(f)
		l = append(l, regexp.MustCompile(`\A`+p+`\z`))
	}
	return l
}()

func isText(s string, most int) bool { return utf8.ValidString(s) && len(s) <= most }

// keyOf is a text's bytes, and noughts.
func keyOf(s string) api.Key {
	var k api.Key
	copy(k[:], s)
	return k
}

// plainLine is the line that a text is, by the patterns.
func plainLine(s string) (api.Line, bool) {
	if len(s) > 200 {
		return api.Line{}, false
	}
	for i, p := range patterns {
		m := p.FindStringSubmatch(s)
		if m == nil {
			continue
		}
		f := strings.Fields(forms[i])
		l := api.Line{Word: f[0]}
		for j, kind := range f[1:] {
			text := m[1+j]
			switch kind {
			case "N":
				n, _ := strconv.Atoi(text)
				l.N = append(l.N, n)
			case "K":
				if !isText(text, 8) {
					return api.Line{}, false
				}
				l.Key = keyOf(text)
			case "V":
				if !isText(text, 24) {
					return api.Line{}, false
				}
				l.Value = text
			}
		}
		return l, true
	}
	return api.Line{}, false
}

// isFirst tells whether members make a first chain.
func isFirst(l []api.Member) bool {
	for i, m := range l {
		twice := slices.ContainsFunc(l[:i], func(o api.Member) bool { return o.Node == m.Node })
		if twice || m.Fresh || m.Node < 0 || m.Node > 5 || m.Site < 0 || m.Site > 2 {
			return false
		}
	}
	return len(l) > 0
}

// plainParse is P24.1, by its words.
func plainParse(text string) (first []api.Member, lines []api.Line, at int, e api.Errno) {
	if len(text) > 32768 {
		return nil, nil, 0, api.ErrLong
	}
	for i, s := range strings.Split(text, "\n") {
		if s == "" || s[0] == '#' {
			continue
		}
		l, ok := plainLine(s)
		if !ok || l.Word == "member" && len(lines) > 0 {
			return nil, nil, i + 1, api.ErrLine
		}
		if l.Word == "member" {
			first = append(first, api.Member{Node: l.N[0], Site: l.N[1]})
		} else {
			lines = append(lines, l)
		}
	}
	if !isFirst(first) {
		return nil, nil, 0, api.ErrChain
	}
	return first, lines, 0, api.OK
}

func sameLine(a, b api.Line) bool {
	return a.Word == b.Word && slices.Equal(a.N, b.N) && a.Key == b.Key && a.Value == b.Value
}

// maker makes texts, mostly of lines.
type maker struct{ *rand.Rand }

func pick[T any](x maker, l []T) T { return l[x.IntN(len(l))] }

var (
	numbers = strings.Split("0 1 5 9 10 -1 -9 42 1000 999999999 -999999999", " ")
	keys    = strings.Split("a b key abcdefgh é 日本 # - 0 \" \u0080 \U0010ffff", " ")
	values  = strings.Split("x y value 123456789012345678901234 éééééééééééé # 0 \"q\" \u00a0 日本語", " ")
	// What is none of these, for one reason or another.
	wrong = strings.Split("00 01 -0 +1 1.0 1e3 0x1 1_0 1000000000 -1000000000 0000000001 - -- a ٣ abcdefghi 日本語 \xff a\x80 x\x7f \x01 x\ty x\r x\x00 x\x00y 1234567890123456789012345 \xed\xa0\x80", " ")
)

// of is a form with something for each sign.
func (x maker) of(form string) string {
	words := strings.Fields(form)
	for i, w := range words {
		switch w {
		case "N":
			words[i] = pick(x, numbers)
		case "K":
			words[i] = pick(x, keys)
		case "V":
			words[i] = pick(x, values)
		}
	}
	return strings.Join(words, " ")
}

// member is a line of the first chain, mostly a good one.
func (x maker) member() string { return fmt.Sprint("member ", x.IntN(6), " ", x.IntN(3)) }

// spoilt is a line with something wrong, mostly.
func (x maker) spoilt(s string) string {
	words := strings.Split(s, " ")
	at := x.IntN(len(words))
	switch x.IntN(9) {
	case 0:
		words[at] = pick(x, wrong)
	case 1:
		words = slices.Delete(words, at, at+1)
	case 2:
		words = slices.Insert(words, at, pick(x, numbers))
	case 3:
		words[at] = ""
	case 4:
		return s + " "
	case 5:
		return " " + s
	case 6:
		return strings.ToUpper(s)
	case 7:
		i := x.IntN(len(s) + 1)
		return s[:i] + pick(x, []string{"\t", "\r", "\x00", "x", "0", " ", "\xff"}) + s[i:]
	case 8:
		i := x.IntN(len(s))
		return s[:i] + s[i+1:]
	}
	return strings.Join(words, " ")
}

// text is a whole one.
func (x maker) text() string {
	var l []string
	for range x.IntN(4) + x.IntN(2) {
		l = append(l, x.member())
	}
	for range x.IntN(12) {
		l = append(l, x.of(pick(x, forms[1:])))
	}
	for range x.IntN(4) {
		l = slices.Insert(l, x.IntN(len(l)+1), pick(x, []string{"", "#", "# member 9", "#" + strings.Repeat("x", 300), "##\xff"}))
	}
	if len(l) > 0 && x.IntN(3) == 0 {
		at := x.IntN(len(l))
		if l[at] != "" {
			l[at] = x.spoilt(l[at])
		}
	}
	text := strings.Join(l, "\n")
	if x.IntN(2) == 0 {
		text += "\n"
	}
	return text
}

// P24.1: a plain model of the chapter's words is held against Parse.
func TestModel(t *testing.T) {
	counts := map[api.Errno]int{}
	x := maker{rand.New(rand.NewPCG(24, 1))}
	for range 60000 {
		text := x.text()
		first, lines, at, e := script.Parse(text)
		wantFirst, wantLines, wantAt, want := plainParse(text)
		if e != want || at != wantAt || !slices.Equal(first, wantFirst) || !slices.EqualFunc(lines, wantLines, sameLine) {
			t.Fatalf("%q: %v, %v, %d, %d, not %v, %v, %d, %d", text, first, lines, at, e, wantFirst, wantLines, wantAt, want)
		}
		counts[e]++
	}
	if counts[api.OK] < 9000 || counts[api.ErrLine] < 9000 || counts[api.ErrChain] < 9000 {
		t.Error(counts)
	}
}

// P24.1, P24.2: the model tells each line, spoilt or not, as the program does; what is a line has just that text.
func TestModelLines(t *testing.T) {
	x := maker{rand.New(rand.NewPCG(24, 2))}
	are := 0
	for range 60000 {
		s := x.of(pick(x, forms[1:]))
		if x.IntN(3) > 0 {
			s = x.spoilt(s)
		}
		if s == "" || s[0] == '#' || strings.Contains(s, "\n") {
			continue
		}
		want, ok := plainLine(s)
		_, lines, at, e := script.Parse("member 0 0\n" + s)
		if ok && (e != api.OK || len(lines) != 1 || !sameLine(lines[0], want)) || !ok && (e != api.ErrLine || at != 2) {
			t.Fatalf("%q: %v, %d, %d; %v, %v", s, lines, at, e, want, ok)
		}
		if ok {
			are++
			if got := script.Text(want); got != s {
				t.Fatalf("%q: %q", s, got)
			}
		}
	}
	if are < 20000 || are > 40000 {
		t.Error(are)
	}
}
