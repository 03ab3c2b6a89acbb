package script

import (
	"strconv"
	"strings"

	"towline/api"
	"towline/shelf"
)

// Signs of what stands behind a word.
const (
	aNumber = 'n'
	aKey    = 'k'
	aValue  = 'v'
)

const (
	blank    = " "
	greatest = 999_999_999 // of nine digits
	lastMark = 32          // up to here code points are blanks and the like
	deleted  = 127         // and so is this one
)

// behind is what stands behind a word, a sign each; false: it is no word of a line.
func behind(word string) (string, bool) {
	switch word {
	case member, "again", "start", "crash", "tick":
		return "nn", true
	case "write":
		return "nnkv", true
	case "read":
		return "nnknn", true
	case "drop", "fresh", "wall", "carry", "show", "calls", "lead", "near":
		return "n", true
	case "take", "lose", "double", "arm", "dead", "site", "join", "anew", "peek", "plan":
		return "nnn", true
	case "of":
		return "nk", true
	case "chain", "judge", "net":
		return "", true
	}
	return "", false
}

// read is the line that a text is; false: it is none.
func read(s string) (api.Line, bool) {
	if len(s) > api.MaxLine {
		return api.Line{}, false
	}
	words := strings.Split(s, blank)
	signs, ok := behind(words[0])
	if !ok || len(words)-1 != len(signs) {
		return api.Line{}, false
	}
	l := api.Line{Word: words[0]}
	for i, sign := range signs {
		if !put(&l, sign, words[1+i]) {
			return api.Line{}, false
		}
	}
	return l, true
}

// put puts into a line what a word of it says, by its sign; false: it says none of these.
func put(l *api.Line, sign rune, s string) bool {
	switch sign {
	case aNumber:
		n, ok := number(s)
		l.N = append(l.N, n)
		return ok
	case aKey:
		k, e := shelf.Key(s)
		l.Key = k
		return e == api.OK && plain(s)
	default:
		l.Value = s
		return shelf.Right(l.Key, s) == api.OK && plain(s)
	}
}

// number is what digits say; false: it is too great, or has another form.
func number(s string) (int, bool) {
	n, err := strconv.Atoi(s)
	return n, err == nil && n >= -greatest && n <= greatest && strconv.Itoa(n) == s
}

// plain tells whether a text has no signs that part others.
func plain(s string) bool {
	for _, sign := range s {
		if sign <= lastMark || sign == deleted {
			return false
		}
	}
	return true
}

// write is the text that a line would have; false: it has no such word, or too few numbers.
func write(l api.Line) (string, bool) {
	signs, ok := behind(l.Word)
	numbers := l.N
	words := []string{l.Word}
	for _, sign := range signs {
		switch {
		case sign == aKey:
			words = append(words, shelf.Name(l.Key))
		case sign == aValue:
			words = append(words, l.Value)
		case len(numbers) == 0:
			return "", false
		default:
			words = append(words, strconv.Itoa(numbers[0]))
			numbers = numbers[1:]
		}
	}
	return strings.Join(words, blank), ok
}
