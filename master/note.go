package master

import (
	"towline/api"
	"towline/raft"
	"towline/tape"
	"towline/wire"
)

// Kinds of notes.
const (
	voted = 1 + iota // a term, and the vote in it
	laid             // a row at an index; none stands behind it
)

// nobody is whom one voted for who did not vote.
const nobody = -1

func hardNote(h api.Hard) []byte { return wire.PutInts(nil, voted, h.Term, h.Vote) }

func rowNote(index int, r api.Row) []byte {
	return wire.PutBytes(wire.PutInts(nil, laid, index, r.Term), r.Data)
}

// past is what notes tell.
type past struct {
	hard api.Hard
	rows []api.Row
}

// load is what a tape's notes tell, in their order.
func load(t *tape.Tape) (past, api.Errno) {
	p := past{hard: api.Hard{Vote: nobody}}
	for i := range t.Len() {
		b, _ := t.At(i)
		if !p.follow(b) {
			return past{}, api.ErrStore
		}
	}
	return p, api.OK
}

// follow does a note; false: it is none. Whether terms may be is for raft to say.
func (p *past) follow(b []byte) bool {
	r := wire.Read(b)
	switch r.Int() {
	case voted:
		p.hard = api.Hard{Term: r.Int(), Vote: r.Int()}
		return r.End() == api.OK
	case laid:
		index := r.Int()
		row := api.Row{Term: r.Int(), Data: r.Bytes(api.MaxData)}
		if r.End() != api.OK || index < 1 || index > len(p.rows)+1 {
			return false
		}
		p.rows = append(p.rows[:index-1], row)
		return true
	}
	return false
}

// kept is a state, and what lasts of it.
type kept struct {
	tape  *tape.Tape
	state *raft.State // nil: it stands still, or Open did not make it
}

// runs tells one that says something from one that stands still.
func (k *kept) runs() bool { return k.state != nil }

// leads tells whether it leads the other masters.
func (k *kept) leads() bool { return k.state.View().Role == api.Leads }

// rowsFrom is all rows from an index on; from 0 on, where nobody stands, none.
func (k *kept) rowsFrom(index int) []api.Row { return k.state.Rows(index, api.MaxRows) }

// changed is notes of what a step changed. The term goes ahead: no row that lasts may be of a greater one.
func (k *kept) changed(o api.Out) [][]byte {
	var notes [][]byte
	if o.Hard {
		notes = append(notes, hardNote(k.state.View().Hard))
	}
	for i, r := range k.rowsFrom(o.From) {
		notes = append(notes, rowNote(o.From+i, r))
	}
	return notes
}

// keep makes what a step changed last.
func (k *kept) keep(o api.Out) api.Errno {
	notes := k.changed(o)
	if len(notes) == 0 {
		return api.OK
	}
	for _, b := range notes {
		if e := k.tape.Put(b); e != api.OK {
			return e
		}
	}
	return k.tape.Sync()
}
