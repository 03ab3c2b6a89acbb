package trace_test

import (
	"fmt"
	"math/rand/v2"
	"reflect"
	"slices"
	"strings"

	"towline/api"
)

const top = 1 << 40

func key(s string) api.Key {
	var k api.Key
	copy(k[:], s)
	return k
}

func name(k api.Key) string { return strings.TrimRight(string(k[:]), "\x00") }

// names is those of the kinds, the kind 1 first.
var names = strings.Fields("vote grant feed fed tell sure chain put ack base have ask ver write read done")

// teller puts a text together, word by word: the chapter's words, one by one.
type teller struct{ words []string }

func (w *teller) say(name, text string) {
	if text != "" {
		w.always(name, text)
	}
}

func (w *teller) always(name, text string) { w.words = append(w.words, name+"="+text) }

func (w *teller) num(name string, n int) {
	if n != 0 {
		w.always(name, fmt.Sprint(n))
	}
}

func join[T any](l []T, text func(T) string) string {
	s := ""
	for i, x := range l {
		if i > 0 {
			s += ","
		}
		s += text(x)
	}
	return s
}

// text is a message that may be as a text.
func text(m api.Msg) string {
	w := teller{words: []string{names[m.Kind-1], fmt.Sprintf("%d>%d", m.From, m.To)}}
	w.num("epoch", m.Epoch)
	w.num("term", m.Term)
	w.num("index", m.Index)
	w.num("prev", m.Prev)
	w.num("last", m.Last)
	w.num("commit", m.Commit)
	w.num("nonce", m.Nonce)
	w.num("round", m.Round)
	w.num("err", int(m.Err))
	w.num("ver", m.Ver)
	w.num("mode", m.Mode)
	w.num("bound", m.Bound)
	if m.Yes {
		w.always("yes", "1")
	}
	if m.Kind == api.MWrite || m.Kind == api.MRead || m.Kind == api.MDone {
		w.always("req", fmt.Sprintf("%d.%d", m.Req.Client, m.Req.Seq))
	}
	w.say("key", fmt.Sprintf("%x", name(m.Key)))
	w.say("value", fmt.Sprintf("%x", m.Value))
	w.say("pass", fmt.Sprintf("%x", m.Pass))
	w.say("rows", join(m.Rows, func(x api.Row) string { return fmt.Sprintf("%d.%x", x.Term, x.Data) }))
	w.say("recs", join(m.Recs, func(x api.Record) string {
		return fmt.Sprintf("%d.%d.%x.%d.%x.%d.%d", x.Index, x.Epoch, name(x.Key), x.Ver, x.Value, x.Req.Client, x.Req.Seq)
	}))
	if m.Kind == api.MBase {
		w.always("table", fmt.Sprintf("%d.%d", m.Table.Index, m.Table.Epoch))
		w.always("cells", join(m.Table.Cells, func(c api.Cell) string { return fmt.Sprintf("%x.%d.%x", name(c.Key), c.Ver, c.Value) }))
		w.always("done", join(m.Table.Done, func(d api.Done) string { return fmt.Sprintf("%d.%d.%d", d.Client, d.Seq, d.Ver) }))
	}
	if m.Chain.Epoch != 0 {
		w.always("chain", fmt.Sprint(m.Chain.Epoch))
		w.always("members", join(m.Chain.Members, func(x api.Member) string {
			return fmt.Sprintf("%d.%d", x.Node, x.Site) + map[bool]string{true: ".f"}[x.Fresh]
		}))
	}
	if m.Kind == api.MTell {
		w.always("cmd", fmt.Sprintf("%d.%d.%d.%d", m.Cmd.Kind, m.Cmd.Node, m.Cmd.Site, m.Cmd.Epoch))
	}
	return strings.Join(w.words, " ")
}

// chance makes messages.
type chance struct{ *rand.Rand }

func pick[T any](r chance, l ...T) T { return l[r.IntN(len(l))] }

func (r chance) num() int   { return pick(r, 0, 0, 1, 2, 9, 10, 1234, top-1, top) }
func (r chance) count() int { return max(1, r.num()) }

func (r chance) bytes(most int) []byte {
	b := make([]byte, pick(r, 0, 1, r.IntN(most), most))
	for i := range b {
		b[i] = byte(r.Uint32())
	}
	return b
}

func (r chance) req() api.Req { return api.Req{Client: r.IntN(4), Seq: r.count()} }
func (r chance) key() api.Key {
	return key(pick(r, "a", "abcdefgh", "é", "日本", "\x01", " .=", ",>"))
}
func (r chance) value() string {
	return pick(r, "x", "\x00", "日本語", " ", "=.,>", strings.Repeat("\x7f", 24))
}

func (r chance) record() api.Record {
	return api.Record{Index: r.count(), Epoch: r.count(), Key: r.key(), Ver: r.count(), Value: r.value(), Req: r.req()}
}

func (r chance) row() api.Row { return api.Row{Term: r.count(), Data: r.bytes(64)} }

func some[T any](r chance, most int, next func() T) []T {
	var l []T
	for range r.IntN(most + 1) {
		l = append(l, next())
	}
	return l
}

func (r chance) table() api.Table {
	var t api.Table
	for i := range r.IntN(13) {
		c := api.Cell{Key: key(fmt.Sprintf("k%02d", i)), Ver: r.IntN(1<<30) + 1, Value: r.value()}
		t.Cells = append(t.Cells, c)
		t.Index += c.Ver
	}
	if t.Index == 0 {
		return t
	}
	t.Epoch = r.count()
	for client := range 4 {
		if r.IntN(2) == 0 || client == 3 && len(t.Done) == 0 {
			t.Done = append(t.Done, api.Done{Client: client, Seq: r.count(), Ver: 1 + r.IntN(t.Index)})
		}
	}
	return t
}

func (r chance) chain() api.Chain {
	if r.IntN(3) == 0 {
		return api.Chain{}
	}
	c := api.Chain{Epoch: r.count()}
	site := 0
	for i, node := range r.Perm(6)[:1+r.IntN(6)] {
		site = min(2, site+r.IntN(2))
		c.Members = append(c.Members, api.Member{Node: node, Site: site, Fresh: i > 0 && r.IntN(2) == 0})
	}
	return c
}

func (r chance) command() api.Command {
	c := api.Command{Kind: 1 + r.IntN(5), Node: r.IntN(6), Site: r.IntN(3), Epoch: r.count()}
	if c.Kind == api.CSite {
		c.Node = 0
	} else if c.Kind != api.CJoin {
		c.Site = 0
	}
	return c
}

// msg is a message of a kind.
func (r chance) msg(kind int) api.Msg {
	from := r.IntN(13)
	m := api.Msg{Kind: kind, From: from, To: (from + 1 + r.IntN(12)) % 13}
	switch kind {
	case api.MVote:
		m.Term, m.Index, m.Last = r.num(), r.num(), r.num()
	case api.MGrant:
		m.Term, m.Yes = r.num(), r.IntN(2) == 0
	case api.MFeed:
		m.Term, m.Prev, m.Last, m.Commit, m.Round, m.Rows = r.num(), r.num(), r.num(), r.num(), r.num(), some(r, 4, r.row)
	case api.MFed:
		m.Term, m.Index, m.Round, m.Yes = r.num(), r.num(), r.num(), r.IntN(2) == 0
	case api.MTell:
		m.Cmd = r.command()
	case api.MSure:
		m.Epoch, m.Nonce = r.num(), r.num()
	case api.MChain:
		m.Epoch, m.Nonce, m.Chain = r.num(), r.num(), r.chain()
	case api.MPut:
		m.Epoch, m.Index, m.Prev, m.Last, m.Commit, m.Recs = r.num(), r.num(), r.num(), r.num(), r.num(), some(r, 4, r.record)
	case api.MAck:
		m.Epoch, m.Commit = r.num(), r.num()
	case api.MBase:
		m.Epoch, m.Table = r.num(), r.table()
	case api.MHave:
		m.Epoch, m.Index, m.Yes = r.num(), r.num(), r.IntN(2) == 0
	case api.MAsk:
		m.Epoch, m.Nonce, m.Key = r.num(), r.num(), r.key()
	case api.MVer:
		m.Epoch, m.Nonce, m.Ver = r.num(), r.num(), r.num()
	case api.MWrite:
		m.Req, m.Key, m.Value, m.Pass = r.req(), r.key(), r.value(), r.bytes(120)
	case api.MRead:
		m.Mode, m.Bound, m.Req, m.Key, m.Pass = r.num(), r.num(), r.req(), r.key(), r.bytes(120)
	case api.MDone:
		m.Ver, m.Err, m.Req, m.Pass, m.Chain = r.num(), api.Errno(r.IntN(256)), r.req(), r.bytes(120), r.chain()
		m.Value = pick(r, "", r.value())
	}
	return m
}

// plain is a message whose lists without items are nil.
func plain(m api.Msg) api.Msg {
	m.Rows, m.Recs, m.Pass = none(m.Rows), none(m.Recs), none(m.Pass)
	for i := range m.Rows {
		m.Rows[i].Data = none(m.Rows[i].Data)
	}
	m.Table.Cells, m.Table.Done, m.Chain.Members = none(m.Table.Cells), none(m.Table.Done), none(m.Chain.Members)
	return m
}

func none[T any](l []T) []T {
	if len(l) == 0 {
		return nil
	}
	return slices.Clone(l)
}

func same(a, b api.Msg) bool { return reflect.DeepEqual(plain(a), plain(b)) }
