package script_test

import (
	"math"
	"strings"
	"testing"

	"towline/api"
	"towline/script"
)

// steps is the chapter's list: a line of each word, and its step.
var steps = map[string]api.Step{
	"take 1 2 3":       {Kind: 1, From: 1, To: 2, N: 3},
	"lose 1 2 3":       {Kind: 2, From: 1, To: 2, N: 3},
	"double 1 2 3":     {Kind: 3, From: 1, To: 2, N: 3},
	"wall 1":           {Kind: 4, N: 1},
	"wall -7":          {Kind: 4, N: -7},
	"tick 1 2":         {Kind: 5, From: 1, Timeout: 2},
	"crash 1 -2":       {Kind: 6, From: 1, N: -2},
	"start 1 2":        {Kind: 7, From: 1, Timeout: 2},
	"arm 1 2 3":        {Kind: 8, From: 1, N: 2, To: 3},
	"write 1 2 key x":  {Kind: 9, From: 1, To: 2, Key: api.Key{'k', 'e', 'y'}, Value: "x"},
	"read 1 2 key 3 4": {Kind: 10, From: 1, To: 2, Key: api.Key{'k', 'e', 'y'}, Mode: 3, Bound: 4},
	"again 1 2":        {Kind: 11, From: 1, To: 2},
	"drop 1":           {Kind: 12, From: 1},
	"fresh 1":          {Kind: 15, From: 1},
	"join 1 2 3":       {Kind: 14, From: 1, To: 2, N: 3},
	"dead 1 2 3":       {Kind: 13, From: 1, Cmd: api.Command{Kind: 1, Node: 2, Epoch: 3}},
	"anew 1 2 3":       {Kind: 13, From: 1, Cmd: api.Command{Kind: 3, Node: 2, Epoch: 3}},
	"site 1 2 3":       {Kind: 13, From: 1, Cmd: api.Command{Kind: 5, Site: 2, Epoch: 3}},
}

// P24.3: each word that is a step, and no other.
func TestSteps(t *testing.T) {
	words := map[string]int{}
	for s, want := range steps {
		got, ok := script.Step(line(t, s))
		if !ok || got != want {
			t.Errorf("%q: %+v, %v", s, got, ok)
		}
		words[strings.Fields(s)[0]]++
	}
	for _, f := range forms {
		word, rest, _ := strings.Cut(f, " ")
		many := strings.Count(rest, "N")
		for n := range 7 {
			l := api.Line{Word: word, N: make([]int, n), Key: keyOf("a"), Value: "x"}
			if s, ok := script.Step(l); ok != (words[word] > 0 && n == many) || !ok && s != (api.Step{}) {
				t.Errorf("%s with %d numbers: %+v, %v", word, n, s, ok)
			}
		}
	}
	if len(words) != 17 {
		t.Error(words)
	}
}

// P24.3: a word that is none; numbers that no line has; what stands nowhere is of no step.
func TestStepOfAny(t *testing.T) {
	for _, w := range []string{"", "fly", "Take", "take ", "tick 1 2", "#", "\xff"} {
		for n := range 5 {
			if s, ok := script.Step(api.Line{Word: w, N: make([]int, n)}); ok || s != (api.Step{}) {
				t.Errorf("%q: %+v", w, s)
			}
		}
	}
	k := api.Key{0, 'x', 0xff}
	for _, c := range []struct {
		l    api.Line
		want api.Step
	}{
		{api.Line{Word: "wall", N: []int{math.MinInt}, Key: k, Value: "v"}, api.Step{Kind: api.SWall, N: math.MinInt}},
		{api.Line{Word: "arm", N: []int{math.MaxInt, math.MinInt, 1 << 40}, Key: k, Value: "v"}, api.Step{Kind: api.SArm, From: math.MaxInt, N: math.MinInt, To: 1 << 40}},
		{api.Line{Word: "write", N: []int{-1, 9}, Key: k, Value: "\xff \n"}, api.Step{Kind: api.SWrite, From: -1, To: 9, Key: k, Value: "\xff \n"}},
		{api.Line{Word: "write", N: []int{0, 0}}, api.Step{Kind: api.SWrite}},
		{api.Line{Word: "read", N: []int{0, 0, -5, math.MaxInt}, Key: k, Value: "v"}, api.Step{Kind: api.SRead, Key: k, Mode: -5, Bound: math.MaxInt}},
		{api.Line{Word: "drop", N: []int{1 << 50}, Key: k, Value: "v"}, api.Step{Kind: api.SDrop, From: 1 << 50}},
		{api.Line{Word: "site", N: []int{-1, -2, -3}, Key: k}, api.Step{Kind: api.SReport, From: -1, Cmd: api.Command{Kind: api.CSite, Site: -2, Epoch: -3}}},
	} {
		if s, ok := script.Step(c.l); !ok || s != c.want {
			t.Errorf("%+v: %+v, %v", c.l, s, ok)
		}
	}
	if s, ok := script.Step(api.Line{Word: "take", N: make([]int, 1<<20)}); ok || s != (api.Step{}) {
		t.Error(s)
	}
}
