package store_test

import (
	"fmt"
	"testing"

	"towline/api"
	"towline/disk"
	"towline/proto"
	"towline/shelf"
	"towline/store"
	"towline/tape"
)

const top = 1 << 40

func key(s string) api.Key {
	var k api.Key
	copy(k[:], s)
	return k
}

// rec is a record of a client's request; ver counts the key's.
func rec(index, epoch int, k string, ver int, client, seq int) api.Record {
	return api.Record{Index: index, Epoch: epoch, Key: key(k), Ver: ver, Value: fmt.Sprint("v", index), Req: api.Req{Client: client, Seq: seq}}
}

// row is so many records behind nothing, of one key and client.
func row(n int) []api.Record {
	var l []api.Record
	for i := range n {
		l = append(l, rec(i+1, 1, "a", i+1, 0, i+1))
	}
	return l
}

func add(l ...api.Record) api.Effect { return api.Effect{Cut: -1, Recs: l} }

func cut(index int) api.Effect { return api.Effect{Cut: index} }

func fold(index int) api.Effect { return api.Effect{Cut: -1, Fold: index} }

func era(epoch int) api.Effect { return api.Effect{Cut: -1, Era: epoch} }

func base(t api.Table) api.Effect { return api.Effect{Base: true, Table: t, Cut: -1} }

// table is one that may be, of seven records.
func table() api.Table {
	return api.Table{
		Index: 7, Epoch: 3,
		Cells: []api.Cell{{Key: key("a"), Ver: 2, Value: "x"}, {Key: key("ab"), Ver: 5, Value: "日"}},
		Done:  []api.Done{{Client: 0, Seq: 300, Ver: 2}, {Client: 3, Seq: 1, Ver: 5}},
	}
}

// num is numbers as the chapter of wire says, seven bits a byte.
func num(l ...int) []byte {
	var b []byte
	for _, n := range l {
		u := uint64(n)
		for ; u > 127; u /= 128 {
			b = append(b, byte(u%128)+128)
		}
		b = append(b, byte(u))
	}
	return b
}

func noteOf(x api.Record) []byte { return proto.PutRecord(num(1), x) }

// state is what a store should have: the chapter's words, one by one.
type state struct {
	shelf *shelf.Shelf
	era   int
}

func (s state) String() string {
	l, _ := s.shelf.Behind(s.shelf.Low(), 100)
	return fmt.Sprint(s.era, s.shelf.Table(), l, s.shelf.Commit())
}

// told is what a store tells.
func told(s *store.Store) string { return state{s.Shelf(), s.Era()}.String() }

// change is one thing that an effect says, and the note of it.
type change struct {
	do   func(s *state) api.Errno
	note []byte
}

// changes is all that an effect says, in its order.
func changes(f api.Effect) []change {
	var l []change
	say := func(note []byte, do func(s *state) api.Errno) { l = append(l, change{do, note}) }
	if f.Base {
		say(nil, func(s *state) (e api.Errno) {
			s.shelf, e = shelf.From(f.Table)
			return e
		})
	}
	if f.Cut >= 0 {
		say(num(2, f.Cut), func(s *state) api.Errno { return s.shelf.Cut(f.Cut) })
	}
	for _, x := range f.Recs {
		say(noteOf(x), func(s *state) api.Errno { return s.shelf.Add(x) })
	}
	if f.Fold != 0 {
		say(nil, func(s *state) api.Errno { return s.shelf.Settle(f.Fold) })
		say(nil, func(s *state) api.Errno { return s.shelf.Fold(f.Fold) })
	}
	if f.Era != 0 {
		say(num(3, f.Era), func(s *state) api.Errno {
			if f.Era <= s.era || f.Era > top {
				return api.ErrEpoch
			}
			s.era = f.Era
			return api.OK
		})
	}
	return l
}

// saves tells whether an effect begins a new tape.
func saves(f api.Effect) bool { return f.Base || f.Fold != 0 }

// do is what becomes of a state, and what it may be if the power goes meanwhile: with some first notes done, or, if it is saved, all or nothing.
func (s state) do(f api.Effect) (next state, between []string, e api.Errno) {
	next = state{s.shelf.Clone(), s.era}
	between = []string{s.String()}
	for _, c := range changes(f) {
		if e := c.do(&next); e != api.OK {
			return s, nil, e
		}
		if !saves(f) {
			between = append(between, next.String())
		}
	}
	return next, append(between, next.String()), api.OK
}

// noted is a state's notes behind an effect that was done, as there were others.
func (s state) noted(f api.Effect, was []string) (notes []string) {
	if !saves(f) {
		notes = was
		for _, c := range changes(f) {
			notes = append(notes, string(c.note))
		}
		return notes
	}
	l, _ := s.shelf.Behind(s.shelf.Low(), 100)
	for _, x := range l {
		notes = append(notes, string(noteOf(x)))
	}
	return notes
}

func newDisk(t *testing.T, room int) *disk.Disk {
	t.Helper()
	d, e := disk.New(room)
	if e != api.OK {
		t.Fatal(e)
	}
	return d
}

func open(t *testing.T, d *disk.Disk) *store.Store {
	t.Helper()
	s, e := store.Open(d)
	if e != api.OK {
		t.Fatal("open", e)
	}
	return s
}

// restart crashes a disk, if its power is on, and opens it once more; and once more: both are the same (P16.4).
func restart(t *testing.T, d *disk.Disk, keep ...int) *store.Store {
	t.Helper()
	d.Crash(keep...)
	d.Start()
	first := told(open(t, d))
	if s := open(t, d); told(s) != first {
		t.Fatalf("opened once more: %s, not %s", told(s), first)
	}
	d.Crash()
	d.Start()
	s := open(t, d)
	if told(s) != first {
		t.Fatalf("opened behind one more crash: %s, not %s", told(s), first)
	}
	return s
}

// lies is the base and the notes that lie on a disk; kept: all of them last.
func lies(t *testing.T, d *disk.Disk) (base string, notes []string, kept bool) {
	t.Helper()
	d = d.Clone()
	x, e := tape.Open(d)
	if e != api.OK {
		t.Fatal(e)
	}
	for i := range x.Len() {
		b, _ := x.At(i)
		notes = append(notes, string(b))
	}
	d.Crash()
	d.Start()
	y, e := tape.Open(d)
	return string(x.Base()), notes, e == api.OK && y.Len() == x.Len()
}

// written is a disk whose tape has a base and notes.
func written(t *testing.T, base []byte, notes ...[]byte) *disk.Disk {
	t.Helper()
	d := newDisk(t, 1<<18)
	x, e := tape.Open(d)
	if e != api.OK {
		t.Fatal(e)
	}
	if e := x.Save(base, notes...); e != api.OK {
		t.Fatal(e)
	}
	return d
}
