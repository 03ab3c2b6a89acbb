package shelf_test

import (
	"math/rand/v2"
	"slices"
	"strconv"
	"testing"

	"towline/api"
	"towline/shelf"
)

// walk is a shelf, and a keep to which the same is done.
type walk struct {
	*testing.T
	*rand.Rand
	s *shelf.Shelf
	m *keep
}

// begin is one from nothing, or from a table.
func begin(t *testing.T, r *rand.Rand) *walk {
	w := &walk{T: t, Rand: r, s: shelf.New(), m: &keep{}}
	if r.IntN(3) > 0 {
		return w
	}
	x := []api.Table{table(), wide(12), wide(11), tall(3, 2)}[r.IntN(4)]
	s, e := shelf.From(x)
	if e != api.OK {
		t.Fatal(e)
	}
	w.s, w.m = s, &keep{low: x, commit: x.Index}
	return w
}

// near is an index about where the shelf has some.
func (w *walk) near() int {
	last, _ := w.s.Last()
	return w.s.Low() - 1 + w.IntN(last-w.s.Low()+3)
}

// wish is what Next is asked for; now and then it can't be.
func (w *walk) wish() (epoch int, k api.Key, value string, r api.Req) {
	_, epoch = w.s.Last()
	r = api.Req{Client: w.IntN(4)}
	r.Seq = seqOf(w.m.all(w.m.tail), r.Client) + 1 + w.IntN(2)
	k, value = key(names[w.IntN(len(names))]), "v"+strconv.Itoa(w.IntN(1000))
	epoch = max(epoch, 1) + w.IntN(5)/4
	switch w.IntN(30) {
	case 0:
		epoch -= 1 + w.IntN(2)
	case 1:
		k = badKeys()[w.IntN(len(badKeys()))]
	case 2:
		value = noValues[w.IntN(len(noValues))]
	case 3:
		r.Client = []int{-1, 4}[w.IntN(2)]
	case 4:
		r.Seq -= 2
	}
	return epoch, k, value, r
}

// put adds what Next tells (P9.10), or a record that is perhaps none.
func (w *walk) put() {
	epoch, k, value, r := w.wish()
	x, e := w.s.Next(epoch, k, value, r)
	if y, f := w.m.Next(epoch, k, value, r); x != y || e != f {
		w.Fatalf("Next %d, %v, %q, %v: %v, %d, not %v, %d", epoch, k, value, r, x, e, y, f)
	}
	if room := len(w.m.tail) < api.MaxTail; e == api.OK && room != (w.s.Clone().Add(x) == api.OK) {
		w.Fatalf("what Next tells is refused: %v", x)
	}
	if e != api.OK || w.IntN(6) == 0 {
		last, _ := w.s.Last()
		x = api.Record{Index: last + 1, Epoch: epoch, Key: k, Ver: w.s.Top(k).Ver + 1, Value: value, Req: r}
		switch w.IntN(8) {
		case 0:
			x.Index += w.IntN(3) - 1
		case 1:
			x.Ver += w.IntN(3) - 1
		}
	}
	w.same("Add", x, w.s.Add(x), w.m.Add(x))
}

// same checks that both said the same.
func (w *walk) same(name string, of any, e, f api.Errno) {
	w.Helper()
	if e != f {
		w.Fatalf("%s %v: %d, not %d", name, of, e, f)
	}
}

// step does one thing to both.
func (w *walk) step() {
	at := w.near()
	switch w.IntN(12) {
	case 0:
		w.same("Cut", at, w.s.Cut(at), w.m.Cut(at))
	case 1, 2, 3:
		w.same("Settle", at, w.s.Settle(at), w.m.Settle(at))
	case 4:
		w.same("Fold", at, w.s.Fold(at), w.m.Fold(at))
	default:
		w.put()
	}
}

// P9.2 to P9.5, P9.9: whatever is done, a shelf tells what the chapter's words make of it.
func TestWalk(t *testing.T) {
	r := rand.New(rand.NewPCG(91, 1))
	most, folds := 0, 0
	for range 60 {
		w := begin(t, r)
		for range 80 {
			w.step()
			if got, want := view(w.s), view(w.m); got != want {
				t.Fatalf("told:\n%s\nnot:\n%s", got, want)
			}
			most = max(most, len(w.m.tail))
			if w.s.Low() > 20 {
				folds++
			}
		}
	}
	if most < api.MaxTail || folds == 0 {
		t.Error("the walks do not come far", most, folds)
	}
}

// P9.8: tables can be; they are what all records up to there make; and a shelf of Whole, with the records behind it, is the one that is folded up to there.
func TestWalkTables(t *testing.T) {
	r := rand.New(rand.NewPCG(98, 1))
	for range 40 {
		w := &walk{T: t, Rand: r, s: shelf.New(), m: &keep{}}
		var all []api.Record
		for range 80 {
			w.step()
			last, _ := w.s.Last()
			l, _ := w.s.Behind(w.s.Low(), last)
			all = append(all[:w.s.Low()], l...)
			low, whole := w.s.Table(), w.s.Whole()
			if !sameTable(low, made(all[:w.s.Low()])) || !sameTable(whole, made(all[:w.s.Commit()])) {
				t.Fatalf("%v: %v, %v", all, low, whole)
			}
			if shelf.Check(low) != api.OK || shelf.Check(whole) != api.OK {
				t.Fatal("a table can't be", low, whole)
			}
			again(t, w.s)
		}
	}
}

// again checks that From of Whole, with the records behind it, tells the same.
func again(t *testing.T, s *shelf.Shelf) {
	t.Helper()
	x, e := shelf.From(s.Whole())
	if e != api.OK {
		t.Fatal(e)
	}
	l, _ := s.Behind(s.Commit(), api.MaxTail)
	for _, r := range l {
		if e := x.Add(r); e != api.OK {
			t.Fatalf("%v: %d", r, e)
		}
	}
	folded := s.Clone()
	fold(t, folded, s.Commit())
	if steady(x) != steady(s) || view(x) != view(folded) {
		t.Fatalf("told:\n%s\nnot:\n%s", view(x), view(folded))
	}
}

// P9.6: folding changes nothing of what Clean, Top, Whole, Dirty, Last and Known tell, but for requests below the table that are not the last of their client.
func TestWalkFold(t *testing.T) {
	r := rand.New(rand.NewPCG(96, 1))
	for range 25 {
		w := begin(t, r)
		for range 60 {
			w.step()
			for index := w.s.Low(); index <= w.s.Commit(); index++ {
				c := w.s.Clone()
				fold(t, c, index)
				if steady(c) != steady(w.s) || c.Low() != index {
					t.Fatalf("folded to %d:\n%s\nnot:\n%s", index, steady(c), steady(w.s))
				}
				knowsAlike(t, w.s, c)
			}
		}
	}
}

// knowsAlike checks that a folded shelf knows what one knew of requests that are not below its table.
func knowsAlike(t *testing.T, s, folded *shelf.Shelf) {
	t.Helper()
	var l []api.Req
	behind, _ := folded.Behind(folded.Low(), api.MaxTail)
	for _, x := range behind {
		l = append(l, x.Req)
	}
	for _, d := range folded.Table().Done {
		l = append(l, req(d.Client, d.Seq))
	}
	for _, r := range l {
		ver, committed := s.Known(r)
		if v, c := folded.Known(r); v != ver || c != committed || ver == 0 {
			t.Fatalf("%v: %d, %v, not %d, %v", r, v, c, ver, committed)
		}
	}
}

// P9.7: what is cut, and added once more, is as it was.
func TestWalkCut(t *testing.T) {
	r := rand.New(rand.NewPCG(97, 1))
	cuts := 0
	for range 25 {
		w := begin(t, r)
		for range 60 {
			w.step()
			last, _ := w.s.Last()
			index := w.s.Commit() + r.IntN(last-w.s.Commit()+1)
			l, _ := w.s.Behind(index, api.MaxTail)
			c := w.s.Clone()
			if e := c.Cut(index); e != api.OK {
				t.Fatal(index, e)
			}
			if left, _ := c.Behind(c.Low(), api.MaxTail); slices.ContainsFunc(left, func(x api.Record) bool { return x.Index > index }) {
				t.Fatal(left)
			}
			for _, x := range l {
				if e := c.Add(x); e != api.OK {
					t.Fatalf("%v: %d", x, e)
				}
				cuts++
			}
			if view(c) != view(w.s) {
				t.Fatalf("cut at %d:\n%s\nnot:\n%s", index, view(c), view(w.s))
			}
		}
	}
	if cuts == 0 {
		t.Error("nothing was cut")
	}
}
