package store_test

import (
	"fmt"
	"math/rand/v2"
	"slices"
	"testing"

	"towline/api"
	"towline/disk"
	"towline/shelf"
	"towline/store"
)

// worn is a store that has a table, records behind it, an era, and notes.
func worn(t *testing.T, room int) (*disk.Disk, *store.Store, state) {
	t.Helper()
	d := newDisk(t, room)
	s, m := open(t, d), state{shelf.New(), 0}
	for _, f := range []api.Effect{add(row(5)...), era(3), fold(2), add(rec(6, 3, "b", 1, 1, 4)), era(5)} {
		done(t, s, f)
		m, _, _ = m.do(f)
	}
	return d, s, m
}

// keeps is what crashes keep of the files.
func keeps() [][]int {
	l := [][]int{nil, {500, 500}, {0, 0}, {500}, {-1, 500}}
	for k := range 10 {
		l = append(l, []int{5 * k, 5 * k})
	}
	return l
}

// P16.3: the power goes at every byte of an effect; the store is what it was, with some first notes done, or all of it.
func TestCrashAnywhere(t *testing.T) {
	three := []api.Record{rec(7, 5, "b", 2, 1, 5), rec(8, 5, "a", 6, 0, 6), rec(9, 5, "c", 1, 0, 7)}
	for name, f := range map[string]api.Effect{
		"record":  add(three[:1]...),
		"records": add(three...),
		"cut":     cut(3),
		"era":     era(6),
		"all":     {Cut: 5, Recs: []api.Record{rec(6, 5, "c", 1, 2, 1), rec(7, 5, "c", 2, 2, 2)}, Era: 6},
		"fold":    fold(4),
		"base":    base(table()),
		"more":    {Base: true, Table: table(), Cut: -1, Recs: []api.Record{rec(8, 3, "a", 3, 0, 301), rec(9, 3, "a", 4, 0, 302)}, Fold: 8, Era: 9},
	} {
		first := map[string]int{}
		for _, keep := range keeps() {
			for n := 1; ; n++ {
				d, s, m := worn(t, 1<<12)
				next, between, _ := m.do(f)
				d.Arm(n, keep...)
				e := s.Do(f)
				want := m
				if e == api.OK {
					want = next
				} else if e != api.ErrDown {
					t.Fatalf("%s, fuse %d: %d", name, n, e)
				}
				if told(s) != want.String() {
					t.Fatalf("%s, fuse %d: %s, not %s", name, n, told(s), want)
				}
				got := told(restart(t, d, keep...))
				if e == api.OK && got != next.String() || !slices.Contains(between, got) {
					t.Fatalf("%s, fuse %d, keep %v: %s, not one of %q", name, n, keep, got, between)
				}
				first[got]++
				if e == api.OK {
					break
				}
			}
		}
		_, _, m := worn(t, 1<<12)
		_, between, _ := m.do(f)
		slices.Sort(between)
		if between = slices.Compact(between); len(first) != len(between) {
			t.Errorf("%s: %d of %d came", name, len(first), len(between))
		}
	}
}

// P16.2, P16.3: of an effect for which there is no room nothing is done, and what is done behind it is kept, by itself.
func TestNoRoom(t *testing.T) {
	three := []api.Record{rec(7, 5, "b", 2, 1, 5), rec(8, 5, "a", 6, 0, 6), rec(9, 5, "c", 1, 0, 7)}
	full, after := 0, 0
	for room := 1; room < 700; room++ {
		d := newDisk(t, room)
		s, e := store.Open(d)
		if e == api.ErrFull {
			continue
		}
		m := state{shelf.New(), 0}
		refused := false
		for _, f := range []api.Effect{add(row(5)...), era(3), fold(2), add(rec(6, 3, "b", 1, 1, 4)), era(5), add(three...), era(6), {Cut: 6, Era: 7}, add(three[0]), fold(6), base(table()), era(9)} {
			next, _, can := m.do(f)
			was := m
			switch e := s.Do(f); {
			case e == api.OK && can == api.OK:
				m = next
				if refused {
					after++
				}
			case e == api.ErrFull && can == api.OK:
				refused = true
				full++
			case e != can:
				t.Fatalf("room %d: %d, not %d", room, e, can)
			}
			if told(s) != m.String() {
				t.Fatalf("room %d: %s, was %s, not %s", room, told(s), was, m)
			}
			c := d.Clone()
			c.Crash(500, 500)
			c.Start()
			// A torn reel may lie there, which has to be saved anew: for that there may be no room.
			if x, e := store.Open(c); e != api.OK && e != api.ErrFull || e == api.OK && told(x) != m.String() {
				t.Fatalf("room %d: %d", room, e)
			}
			c = d.Clone()
			c.Crash()
			c.Start()
			if x, e := store.Open(c); e != api.OK || told(x) != m.String() {
				t.Fatalf("room %d: %d", room, e)
			}
		}
	}
	if full < 100 || after < 100 {
		t.Error(full, after)
	}
}

// P16.2: if the power goes ahead of the note for which there is no room, that is the error; behind it, no room.
func TestNoRoomNoPower(t *testing.T) {
	three := []api.Record{rec(7, 5, "b", 2, 1, 5), rec(8, 5, "a", 6, 0, 6), rec(9, 5, "c", 1, 0, 7)}
	d, _, _ := worn(t, 1<<12)
	narrow, _, _ := worn(t, d.Used()+40) // for two notes, not for three
	for fuse := 1; fuse < 60; fuse++ {
		d := narrow.Clone()
		s := open(t, d)
		was := told(s)
		d.Arm(fuse)
		want := api.ErrFull
		if fuse <= 32 { // two notes of sixteen bytes, with count and sum
			want = api.ErrDown
		}
		if e := s.Do(add(three...)); e != want || told(s) != was {
			t.Fatal(fuse, e, told(s))
		}
	}
}

// walker is a store, and what it should have.
type walker struct {
	*rand.Rand
	d *disk.Disk
	s *store.Store
	m state
}

// next is the records that would stand behind those up to an index, so many.
func (w *walker) next(s *shelf.Shelf, n int) []api.Record {
	s = s.Clone()
	var l []api.Record
	for range n {
		_, epoch := s.Last()
		client := w.IntN(4)
		seq := 1
		for _, d := range s.Table().Done {
			if d.Client == client {
				seq = d.Seq + 1
			}
		}
		behind, _ := s.Behind(s.Low(), 100)
		for _, x := range behind {
			if x.Req.Client == client {
				seq = x.Req.Seq + 1
			}
		}
		k := key(string(rune('a' + w.IntN(14))))
		x, e := s.Next(max(1, epoch+w.IntN(2)), k, fmt.Sprint("v", w.IntN(100)), api.Req{Client: client, Seq: seq + w.IntN(3)})
		if e != api.OK {
			return l
		}
		s.Add(x)
		l = append(l, x)
	}
	return l
}

// effect is one by chance; now and then it can't be.
func (w *walker) effect() api.Effect {
	f := api.Effect{Cut: -1}
	s := w.m.shelf.Clone()
	if w.IntN(25) == 0 {
		f.Base, f.Table = true, []api.Table{{}, table(), s.Whole(), {Index: 1}}[w.IntN(4)]
		if x, e := shelf.From(f.Table); e == api.OK {
			s = x
		}
	}
	last, _ := s.Last()
	if w.IntN(6) == 0 {
		f.Cut = s.Low() - 1 + w.IntN(last-s.Low()+3)
		s.Cut(f.Cut)
	}
	if w.IntN(2) == 0 {
		f.Recs = w.next(s, 1+w.IntN(4))
		if w.IntN(20) == 0 && len(f.Recs) > 0 {
			f.Recs[w.IntN(len(f.Recs))].Ver++
		}
	}
	if w.IntN(8) == 0 {
		f.Fold = s.Low() + w.IntN(last-s.Low()+3)
	}
	if w.IntN(4) == 0 {
		f.Era = w.m.era + w.IntN(5)
	}
	return f
}

// P16.1 to P16.5: whatever is done, and wherever the power goes.
func TestWalk(t *testing.T) {
	oks, noes, downs := 0, 0, 0
	for seed := range uint64(120) {
		w := &walker{Rand: rand.New(rand.NewPCG(seed, 16)), d: newDisk(t, 1<<16), m: state{shelf.New(), 0}}
		w.s = open(t, w.d)
		for range 60 {
			if w.IntN(8) == 0 {
				w.d.Arm(1+w.IntN(200), w.IntN(100)-5, w.IntN(100)-5)
			}
			f := w.effect()
			next, between, want := w.m.do(f)
			e := w.s.Do(f)
			switch {
			case e == want:
				w.m = next
				if e == api.OK {
					oks++
				} else {
					noes++
				}
			case e == api.ErrDown && want == api.OK:
				downs++
				w.s = restart(t, w.d)
				if !slices.Contains(between, told(w.s)) {
					t.Fatalf("seed %d: %s, not one of %q", seed, told(w.s), between)
				}
				w.m = state{w.s.Shelf(), w.s.Era()}
			default:
				t.Fatalf("seed %d: %+v: %d, not %d", seed, f, e, want)
			}
			if told(w.s) != w.m.String() {
				t.Fatalf("seed %d: %+v: %s, not %s", seed, f, told(w.s), w.m)
			}
			if w.IntN(10) == 0 {
				w.s = restart(t, w.d, w.IntN(50)-5, w.IntN(50)-5)
				if told(w.s) != w.m.String() {
					t.Fatalf("seed %d, opened: %s, not %s", seed, told(w.s), w.m)
				}
			}
		}
	}
	if oks < 1000 || noes < 300 || downs < 100 {
		t.Error(oks, noes, downs)
	}
}
