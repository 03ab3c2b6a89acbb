package store

import (
	"towline/api"
	"towline/proto"
	"towline/shelf"
	"towline/tape"
	"towline/wire"
)

// Kinds of notes.
const (
	added = 1 + iota
	cut
	began
)

// content is what a store has.
type content struct {
	shelf *shelf.Shelf
	era   int
}

// note reads a note: what kind it is, and then what that has.
type note struct {
	*wire.Reader
	b []byte
}

func read(b []byte) note { return note{Reader: wire.Read(b), b: b} }

// rest is the bytes that are not read as yet.
func (n note) rest() []byte { return n.b[len(n.b)-n.Left():] }

// number is the last one; false: it is none, or something stands behind it.
func (n note) number() (int, bool) {
	x := n.Within(0, api.MaxIndex)
	return x, n.End() == api.OK
}

// load is the content that a tape tells.
func load(t *tape.Tape) (content, api.Errno) {
	c, ok := begin(t.Base())
	for i := 0; ok && i < t.Len(); i++ {
		b, _ := t.At(i)
		ok = c.follow(b)
	}
	if !ok {
		return content{}, api.ErrStore
	}
	return c, api.OK
}

// begin is the content of a base; false: it is none.
func begin(base []byte) (content, bool) {
	if len(base) == 0 {
		return content{shelf: shelf.New()}, true
	}
	n := read(base)
	era := n.Within(0, api.MaxIndex)
	t, e := proto.GetTable(n.rest())
	if n.Err() != api.OK || e != api.OK {
		return content{}, false
	}
	s, e := shelf.From(t)
	return content{shelf: s, era: era}, e == api.OK
}

// follow does a note; false: it is none, or can't be done.
func (c *content) follow(b []byte) bool {
	n := read(b)
	switch n.Within(added, began) {
	case added:
		x, e := proto.GetRecord(n.rest())
		return e == api.OK && c.shelf.Add(x) == api.OK
	case cut:
		index, ok := n.number()
		return ok && c.shelf.Cut(index) == api.OK
	case began:
		era, ok := n.number()
		return ok && c.begins(era) == api.OK
	}
	return false
}

// begins makes an epoch the era; eras rise.
func (c *content) begins(epoch int) api.Errno {
	if epoch <= c.era || epoch > api.MaxIndex {
		return api.ErrEpoch
	}
	c.era = epoch
	return api.OK
}

// after is the content behind an effect, with memory of its own.
func (c *content) after(f api.Effect) (content, api.Errno) {
	next := content{shelf: c.shelf.Clone(), era: c.era}
	if e := next.change(f); e != api.OK {
		return content{}, e
	}
	if f.Era != 0 {
		if e := next.begins(f.Era); e != api.OK {
			return content{}, e
		}
	}
	return next, api.OK
}

// change does to the shelf what an effect says.
func (c *content) change(f api.Effect) api.Errno {
	if f.Base {
		s, e := shelf.From(f.Table)
		if e != api.OK {
			return e
		}
		c.shelf = s
	}
	if f.Cut >= 0 {
		if e := c.shelf.Cut(f.Cut); e != api.OK {
			return e
		}
	}
	for _, x := range f.Recs {
		if e := c.shelf.Add(x); e != api.OK {
			return e
		}
	}
	if f.Fold == 0 {
		return api.OK
	}
	if e := c.shelf.Settle(f.Fold); e != api.OK {
		return e
	}
	return c.shelf.Fold(f.Fold)
}

// base is the era and the table as bytes.
func (c *content) base() []byte {
	return proto.PutTable(wire.Put(nil, uint64(c.era)), c.shelf.Table())
}

// notes is a note of each record behind the table.
func (c *content) notes() [][]byte {
	l, _ := c.shelf.Behind(c.shelf.Low(), api.MaxTail)
	return recordNotes(l)
}

func recordNotes(recs []api.Record) [][]byte {
	var l [][]byte
	for _, x := range recs {
		l = append(l, proto.PutRecord(wire.Put(nil, added), x))
	}
	return l
}

// notesOf is the notes of an effect that has no base and folds nothing.
func notesOf(f api.Effect) [][]byte {
	var l [][]byte
	if f.Cut >= 0 {
		l = append(l, wire.Put(nil, cut, uint64(f.Cut)))
	}
	l = append(l, recordNotes(f.Recs)...)
	if f.Era != 0 {
		l = append(l, wire.Put(nil, began, uint64(f.Era)))
	}
	return l
}
