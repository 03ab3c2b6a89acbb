package raft

import (
	"bytes"

	"towline/api"
)

// rows is the masters' order as one of them has it, from index 1 on.
type rows struct{ list []api.Row }

// copied is rows in memory of their own.
func copied(l []api.Row) []api.Row {
	var out []api.Row
	for _, r := range l {
		out = append(out, api.Row{Term: r.Term, Data: bytes.Clone(r.Data)})
	}
	return out
}

// mayFollow tells whether rows may stand behind a row of a term: terms never fall, and none is above the greatest one.
func mayFollow(term, most int, l []api.Row) bool {
	for _, r := range l {
		if r.Term < term || r.Term > most || len(r.Data) > api.MaxData {
			return false
		}
		term = r.Term
	}
	return true
}

// last is the last row's index.
func (r *rows) last() int { return len(r.list) }

// termAt is the term of the row at an index; 0: there is none.
func (r *rows) termAt(index int) int {
	if index < 1 || index > r.last() {
		return 0
	}
	return r.list[index-1].Term
}

// part is the rows from an index on, at most so many.
func (r *rows) part(from, most int) []api.Row {
	if from < 1 || from > r.last() || most < 1 {
		return nil
	}
	rest := r.list[from-1:]
	return copied(rest[:min(most, len(rest))])
}

// put lays a row at an index, in place of all from there on.
func (r *rows) put(index int, row api.Row) {
	r.list = append(r.list[:index-1], copied([]api.Row{row})...)
}
