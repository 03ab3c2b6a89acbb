package proto

import (
	"towline/api"
	"towline/shelf"
	"towline/wire"
)

// reader reads what messages are made of. It tells no errors: whoever reads puts it again, and finds other bytes.
type reader struct{ *wire.Reader }

func (r reader) number() int { return r.Within(0, api.MaxIndex) }

func (r reader) text(most int) string { return string(r.Bytes(most)) }

func (r reader) key() api.Key {
	k, _ := shelf.Key(r.text(api.MaxKey))
	return k
}

func (r reader) request() api.Req { return api.Req{Client: r.number(), Seq: r.number()} }

// listOf is the next list, of at most so many; next reads each of them.
func listOf[T any](r reader, most int, next func() T) []T {
	var l []T
	for range r.Within(0, most) {
		l = append(l, next())
	}
	return l
}

func (r reader) record() api.Record {
	return api.Record{Index: r.number(), Epoch: r.number(), Key: r.key(), Ver: r.number(), Value: r.text(api.MaxValue), Req: r.request()}
}

func (r reader) row() api.Row { return api.Row{Term: r.number(), Data: r.Bytes(api.MaxData)} }

func (r reader) cell() api.Cell {
	return api.Cell{Key: r.key(), Ver: r.number(), Value: r.text(api.MaxValue)}
}

func (r reader) done() api.Done {
	return api.Done{Client: r.number(), Seq: r.number(), Ver: r.number()}
}

func (r reader) table() api.Table {
	return api.Table{Index: r.number(), Epoch: r.number(), Cells: listOf(r, api.MaxKeys, r.cell), Done: listOf(r, api.MaxClients, r.done)}
}

func (r reader) member() api.Member {
	return api.Member{Node: r.number(), Site: r.number(), Fresh: r.Bool()}
}

func (r reader) chain() api.Chain {
	return api.Chain{Epoch: r.number(), Members: listOf(r, api.MaxNodes, r.member)}
}
