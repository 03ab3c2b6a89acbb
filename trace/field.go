package trace

import (
	"strings"

	"towline/api"
)

// field is one of a message: its name, its text, which is empty, if it is zero, and how it is read.
type field struct {
	name   string
	always bool // it is told, too, if its text is empty
	text   func() string
	read   func(s string)
}

// at is the field that stands at a place of a message.
func at[T any](name string, place *T, text func(T) string, read func(string) T) field {
	return field{
		name: name,
		text: func() string { return text(*place) },
		read: func(s string) { *place = read(s) },
	}
}

// listAt is the field of a list, whose items are told and read so.
func listAt[T any](name string, place *[]T, text func(T) string, read func(string) T) field {
	tell := func(l []T) string {
		var items []string
		for _, x := range l {
			items = append(items, text(x))
		}
		return strings.Join(items, ",")
	}
	get := func(s string) []T {
		if s == "" {
			return nil
		}
		var l []T
		for item := range strings.SplitSeq(s, ",") {
			l = append(l, read(item))
		}
		return l
	}
	return at(name, place, tell, get)
}

// fields is all of a message that are told, in their order.
func fields(m *api.Msg) []field {
	l := []field{
		at("epoch", &m.Epoch, count, number),
		at("term", &m.Term, count, number),
		at("index", &m.Index, count, number),
		at("prev", &m.Prev, count, number),
		at("last", &m.Last, count, number),
		at("commit", &m.Commit, count, number),
		at("nonce", &m.Nonce, count, number),
		at("round", &m.Round, count, number),
		at("err", (*int)(&m.Err), count, number),
		at("ver", &m.Ver, count, number),
		at("mode", &m.Mode, count, number),
		at("bound", &m.Bound, count, number),
		at("yes", &m.Yes, flag, readFlag),
		at("req", &m.Req, request, readRequest),
		at("key", &m.Key, key, readKey),
		at("value", &m.Value, value, readValue),
		at("pass", &m.Pass, signs, readSigns),
		listAt("rows", &m.Rows, row, readRow),
		listAt("recs", &m.Recs, record, readRecord),
	}
	if m.Kind == api.MBase {
		l = append(l, tableFields(&m.Table)...)
	}
	return append(l,
		at("chain", &m.Chain.Epoch, count, number),
		listAt("members", &m.Chain.Members, member, readMember),
		at("cmd", &m.Cmd, command, readCommand),
	)
}

// tableFields is those of a table; all of them are told, whatever it has.
func tableFields(t *api.Table) []field {
	l := []field{
		{
			name: "table",
			text: func() string { return points(decimal(t.Index), decimal(t.Epoch)) },
			read: func(s string) {
				p := parts(s, 2)
				t.Index, t.Epoch = number(p[0]), number(p[1])
			},
		},
		listAt("cells", &t.Cells, cell, readCell),
		listAt("done", &t.Done, done, readDone),
	}
	for i := range l {
		l[i].always = true
	}
	return l
}
