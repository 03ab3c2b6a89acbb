package pass_test

import (
	"bytes"
	"maps"
	"math/rand/v2"
	"slices"
	"testing"

	"towline/api"
	"towline/pass"
)

var names = []string{"a", "b", "ab", "é", "B", "\x01", "zz", "abcdefgh"}

// some is what can have been seen of some keys, and the same as a map.
func some(r *rand.Rand) ([]api.Seen, map[string]int) {
	m := map[string]int{}
	for range r.IntN(api.MaxPass + 1) {
		ver := 1 + r.IntN(5)
		if r.IntN(8) == 0 {
			ver = 1<<40 - r.IntN(2)
		}
		m[names[r.IntN(len(names))]] = ver
	}
	return listed(m), m
}

// listed is a map as a list, by rising keys.
func listed(m map[string]int) []api.Seen {
	var l []api.Seen
	for _, name := range slices.Sorted(maps.Keys(m)) {
		l = append(l, see(name, m[name]))
	}
	return l
}

// floors checks that a list has just the floors of a map.
func floors(t *testing.T, l []api.Seen, m map[string]int) {
	t.Helper()
	for _, name := range names {
		if got := pass.Floor(l, key(name)); got != m[name] {
			t.Fatalf("%v: %q: %d, not %d", l, name, got, m[name])
		}
	}
}

// P10.2, P10.4: behind See the floor of its key is the greater one, that of any other one stays.
func TestSeeAgainstModel(t *testing.T) {
	r := rand.New(rand.NewPCG(104, 1))
	full := 0
	for range 20000 {
		l, m := some(r)
		floors(t, l, m)
		name, ver := names[r.IntN(len(names))], r.IntN(7)
		got, e := pass.See(l, key(name), ver)
		if _, there := m[name]; !there && ver > 0 && len(m) == api.MaxPass {
			full++
			if e != api.ErrFull || len(got) != 0 {
				t.Fatalf("%v, %q, %d: %v, %d", l, name, ver, got, e)
			}
			continue
		}
		if ver > m[name] {
			m[name] = ver
		}
		if e != api.OK || !slices.Equal(got, listed(m)) || pass.Right(got) != api.OK {
			t.Fatalf("%v, %q, %d: %v, %d", l, name, ver, got, e)
		}
		floors(t, got, m)
	}
	if full == 0 {
		t.Error("never full")
	}
}

// P10.2, P10.3, P10.5, P10.6: joined floors are the greater ones, in either order, and once more; what was joined has a pass.
func TestJoinAgainstModel(t *testing.T) {
	r := rand.New(rand.NewPCG(105, 1))
	full := 0
	for range 10000 {
		a, m := some(r)
		b, n := some(r)
		for name, ver := range n {
			m[name] = max(m[name], ver)
		}
		got, e := pass.Join(a, b)
		turned, f := pass.Join(b, a)
		if e != f || !slices.Equal(got, turned) {
			t.Fatalf("%v, %v: %v, %d; %v, %d", a, b, got, e, turned, f)
		}
		if len(m) > api.MaxPass {
			full++
			if e != api.ErrFull || len(got) != 0 {
				t.Fatalf("%v, %v: %v, %d", a, b, got, e)
			}
			continue
		}
		if e != api.OK || !slices.Equal(got, listed(m)) {
			t.Fatalf("%v, %v: %v, %d", a, b, got, e)
		}
		floors(t, got, m)
		for _, once := range [][]api.Seen{a, b, got} {
			if more, e := pass.Join(got, once); e != api.OK || !slices.Equal(more, got) {
				t.Fatalf("%v, %v: %v, %d", got, once, more, e)
			}
		}
		bytes, e := pass.Make(secret, got...)
		if back, f := pass.Read(secret, bytes); e != api.OK || f != api.OK || !slices.Equal(back, got) || len(bytes) > api.MaxText {
			t.Fatalf("%v: %v, %d, %d", got, back, e, f)
		}
	}
	if full == 0 {
		t.Error("never full")
	}
}

// The rule Memory: arguments stay, their spare room too, and no answer shares memory with them or another one.
func TestMemory(t *testing.T) {
	room := []api.Seen{see("b", 1), see("d", 2), see("zz", 9), see("zz", 9), see("zz", 9), see("zz", 9), see("zz", 9)}
	kept := slices.Clone(room)
	l := room[:2]
	by := bytes.Clone(append(secret, 7, 7, 7))
	b, _ := pass.Make(by[:16], l...)
	long := append(bytes.Clone(b), 7, 7, 7)
	var answers [][]api.Seen
	take := func(got []api.Seen, e api.Errno) {
		t.Helper()
		if e != api.OK {
			t.Fatal(e)
		}
		answers = append(answers, got)
	}
	for range 2 {
		take(pass.See(l, key("a"), 1))
		take(pass.See(l, key("c"), 1))
		take(pass.See(l, key("d"), 9))
		take(pass.See(l, key("d"), 1))
		take(pass.See(l, key("e"), 0))
		take(pass.Join(l, nil))
		take(pass.Join(nil, l))
		take(pass.Join(l, l))
		take(pass.Join(l, []api.Seen{see("c", 1)}))
		take(pass.Read(by[:16], long[:len(b)]))
	}
	if !slices.Equal(room, kept) || string(by) != string(secret)+"\x07\x07\x07" || !bytes.Equal(long[:len(b)], b) || string(long[len(b):]) != "\x07\x07\x07" {
		t.Fatal("an argument changed", room, by, long)
	}
	var were [][]api.Seen
	for _, a := range answers {
		were = append(were, slices.Clone(a))
	}
	for i, a := range answers {
		if !slices.Equal(a, were[i]) {
			t.Fatal("answers share", i)
		}
		a = a[:cap(a)]
		for j := range a {
			a[j] = see("!", 99)
		}
		if !slices.Equal(room, kept) {
			t.Fatal("an answer shares with an argument", i)
		}
	}
	first, _ := pass.Make(secret, l...)
	second, _ := pass.Make(secret, l...)
	clear(first[:cap(first)])
	if !bytes.Equal(second, b) {
		t.Error("passes share")
	}
}
