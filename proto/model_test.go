package proto_test

import (
	"hash/crc32"
	"math"
	"reflect"
	"slices"
	"strings"
	"unicode/utf8"

	"towline/api"
	"towline/layout"
	"towline/ledger"
	"towline/shelf"
)

const top = 1 << 40

// chapter is the chapter's table: of each kind the fields that it has.
var chapter = map[int]string{
	1: "Term Index Last", 2: "Term Yes",
	3: "Term Prev Last Commit Round Rows", 4: "Term Index Round Yes",
	5: "Cmd", 6: "Epoch Nonce", 7: "Epoch Nonce Chain",
	8: "Epoch Index Prev Last Commit Recs", 9: "Epoch Commit",
	10: "Epoch Table", 11: "Epoch Index Yes",
	12: "Epoch Nonce Key", 13: "Epoch Nonce Ver",
	14: "Req Key Value Pass", 15: "Mode Bound Req Key Pass",
	16: "Ver Err Req Value Pass Chain",
}

// order is that of the fields' bytes.
var order = strings.Fields("Epoch Term Index Prev Last Commit Nonce Round Yes Err Ver Mode Bound Req Key Value Pass Rows Recs Table Chain Cmd")

func has(kind int, field string) bool {
	return slices.Contains(strings.Fields(chapter[kind]), field)
}

// place is where a message has a field.
func place(m *api.Msg, field string) reflect.Value {
	return reflect.ValueOf(m).Elem().FieldByName(field)
}

func is(n, lo, hi int) bool { return lo <= n && n <= hi }

func isKey(k api.Key) bool {
	text := strings.TrimRight(string(k[:]), "\x00")
	return text != "" && !strings.Contains(text, "\x00") && utf8.ValidString(text)
}

func isValue(s string) bool { return is(len(s), 1, 24) && utf8.ValidString(s) }

func isReq(q api.Req) bool { return is(q.Client, 0, 3) && is(q.Seq, 1, top) }

func isRecord(x api.Record) bool {
	return is(x.Index, 1, top) && is(x.Epoch, 1, top) && is(x.Ver, 1, top) && isKey(x.Key) && isValue(x.Value) && isReq(x.Req)
}

func isRow(x api.Row) bool { return is(x.Term, 1, top) && len(x.Data) <= 64 }

// empty tells whether a field is zero; a list without items is.
func empty(x any) bool {
	switch x := x.(type) {
	case []byte:
		return len(x) == 0
	case []api.Row:
		return len(x) == 0
	case []api.Record:
		return len(x) == 0
	case api.Table:
		return x.Index == 0 && x.Epoch == 0 && len(x.Cells) == 0 && len(x.Done) == 0
	case api.Chain:
		return x.Epoch == 0 && len(x.Members) == 0
	}
	return reflect.ValueOf(x).IsZero()
}

func all[T any](l []T, so func(T) bool) bool {
	return !slices.ContainsFunc(l, func(x T) bool { return !so(x) })
}

// right tells whether a field that a kind has may be so.
func right(kind int, x any) bool {
	switch x := x.(type) {
	case int:
		return is(x, 0, top)
	case api.Errno:
		return is(int(x), 0, 255)
	case api.Req:
		return isReq(x)
	case api.Key:
		return isKey(x)
	case string:
		return isValue(x) || x == "" && kind == api.MDone
	case []byte:
		return len(x) <= 120
	case []api.Row:
		return len(x) <= 4 && all(x, isRow)
	case []api.Record:
		return len(x) <= 4 && all(x, isRecord)
	case api.Table:
		return shelf.Check(x) == api.OK
	case api.Chain:
		return empty(x) || layout.Check(x) == api.OK
	case api.Command:
		return ledger.Check(x) == api.OK
	}
	return true
}

// mayBe is the chapter's words of a message.
func mayBe(m api.Msg) bool {
	if chapter[m.Kind] == "" || !is(m.From, 0, 12) || !is(m.To, 0, 12) || m.From == m.To {
		return false
	}
	for _, f := range order {
		x := place(&m, f).Interface()
		if has(m.Kind, f) && !right(m.Kind, x) || !has(m.Kind, f) && !empty(x) {
			return false
		}
	}
	return true
}

// bin is bytes that are put together, the chapter's words one by one; what can't be is put, too.
type bin []byte

func (b *bin) num(l ...int) {
	for _, n := range l {
		u := uint64(n)
		for ; u > 127; u /= 128 {
			*b = append(*b, byte(u%128)+128)
		}
		*b = append(*b, byte(u))
	}
}

func (b *bin) text(s string) {
	b.num(len(s))
	*b = append(*b, s...)
}

func (b *bin) yes(so bool) {
	if so {
		b.num(1)
	} else {
		b.num(0)
	}
}

func (b *bin) key(k api.Key) { b.text(strings.TrimRight(string(k[:]), "\x00")) }

func (b *bin) req(q api.Req) { b.num(q.Client, q.Seq) }

func (b *bin) record(x api.Record) {
	b.num(x.Index, x.Epoch)
	b.key(x.Key)
	b.num(x.Ver)
	b.text(x.Value)
	b.req(x.Req)
}

func (b *bin) table(t api.Table) {
	b.num(t.Index, t.Epoch, len(t.Cells))
	for _, c := range t.Cells {
		b.key(c.Key)
		b.num(c.Ver)
		b.text(c.Value)
	}
	b.num(len(t.Done))
	for _, d := range t.Done {
		b.num(d.Client, d.Seq, d.Ver)
	}
}

func (b *bin) chain(c api.Chain) {
	b.num(c.Epoch, len(c.Members))
	for _, m := range c.Members {
		b.num(m.Node, m.Site)
		b.yes(m.Fresh)
	}
}

func (b *bin) any(x any) {
	switch x := x.(type) {
	case int:
		b.num(x)
	case api.Errno:
		b.num(int(x))
	case bool:
		b.yes(x)
	case api.Req:
		b.req(x)
	case api.Key:
		b.key(x)
	case string:
		b.text(x)
	case []byte:
		b.text(string(x))
	case []api.Row:
		b.num(len(x))
		for _, r := range x {
			b.num(r.Term)
			b.text(string(r.Data))
		}
	case []api.Record:
		b.num(len(x))
		for _, r := range x {
			b.record(r)
		}
	case api.Table:
		b.table(x)
	case api.Chain:
		b.chain(x)
	case api.Command:
		var c bin
		c.num(x.Kind, x.Node, x.Site, x.Epoch)
		b.text(string(c))
	}
}

// payload is what stands in a message's record.
func payload(m api.Msg) bin {
	var b bin
	b.num(m.Kind, m.From, m.To)
	for _, f := range order {
		if has(m.Kind, f) {
			b.any(place(&m, f).Interface())
		}
	}
	return b
}

// seal is bytes as a record.
func seal(data []byte) []byte {
	var b bin
	b.text(string(data))
	s := crc32.Checksum(b, crc32.MakeTable(crc32.Castagnoli))
	return append(b, byte(s>>24), byte(s>>16), byte(s>>8), byte(s))
}

func key(s string) api.Key {
	var k api.Key
	copy(k[:], s)
	return k
}

// numbers is numbers about the limits.
var numbers = []int{math.MinInt, -1 << 40, -1, 0, 1, 2, 127, 128, 300, top - 1, top, top + 1, math.MaxInt}

var keys = []api.Key{
	key("a"), key("abcdefgh"), key("é"), key("日本"), key("\x01"), key("\x7f"), key(" "), key("x y"), key("\U0010ffff\U0010ffff"),
	{}, {0, 'a'}, {'a', 0, 'b'}, {7: 'a'}, key("\xff"), key("a\x80"), key("abcdefg\xc3"), {'a', 7: 'b'},
}

var values = []string{
	"", "x", "é", "\x00", "a b", strings.Repeat("v", 23), strings.Repeat("v", 24), strings.Repeat("日", 8),
	strings.Repeat("v", 25), strings.Repeat("v", 1000), "\xff", "a\xc3", strings.Repeat("日", 9),
}

func reqs() []api.Req {
	var l []api.Req
	for _, client := range []int{math.MinInt, -1, 0, 1, 3, 4, math.MaxInt} {
		for _, seq := range numbers {
			l = append(l, api.Req{Client: client, Seq: seq})
		}
	}
	return l
}

// record is one that may be.
func record() api.Record {
	return api.Record{Index: 3, Epoch: 2, Key: key("ab"), Ver: 1, Value: "x", Req: api.Req{Client: 1, Seq: 4}}
}

// recordsOf is records that differ from one in a field each.
func recordsOf() []api.Record {
	var l []api.Record
	change := func(f func(x *api.Record)) {
		x := record()
		f(&x)
		l = append(l, x)
	}
	for _, n := range numbers {
		change(func(x *api.Record) { x.Index = n })
		change(func(x *api.Record) { x.Epoch = n })
		change(func(x *api.Record) { x.Ver = n })
	}
	for _, k := range keys {
		change(func(x *api.Record) { x.Key = k })
	}
	for _, v := range values {
		change(func(x *api.Record) { x.Value = v })
	}
	for _, q := range reqs() {
		change(func(x *api.Record) { x.Req = q })
	}
	return l
}

// wide is the longest table that may be.
func wide() api.Table {
	t := api.Table{Index: 12 << 30, Epoch: top}
	for i := range 12 {
		t.Cells = append(t.Cells, api.Cell{Key: key("abcdefg" + string(rune('a'+i))), Ver: 1 << 30, Value: strings.Repeat("v", 24)})
	}
	for i := range 4 {
		t.Done = append(t.Done, api.Done{Client: i, Seq: top, Ver: 1 << 30})
	}
	return t
}

// small is a table that may be.
func small() api.Table {
	return api.Table{
		Index: 7, Epoch: 3,
		Cells: []api.Cell{{Key: key("a"), Ver: 2, Value: "x"}, {Key: key("ab"), Ver: 5, Value: "日"}},
		Done:  []api.Done{{Client: 0, Seq: 300, Ver: 2}, {Client: 3, Seq: 1, Ver: 5}},
	}
}

// tables is ones that may be, and ones that can't, each by one thing.
func tables() []api.Table {
	l := []api.Table{{}, {Cells: []api.Cell{}, Done: []api.Done{}}, small(), wide(), {Index: 1}, {Epoch: 1}, {Index: -1, Epoch: -1},
		{Index: top, Epoch: top, Cells: []api.Cell{{Key: key("a"), Ver: top, Value: "x"}}, Done: []api.Done{{Seq: 1, Ver: 1}}},
		{Index: top + 1, Epoch: top, Cells: []api.Cell{{Key: key("a"), Ver: top + 1, Value: "x"}}, Done: []api.Done{{Seq: 1, Ver: 1}}},
		{Cells: []api.Cell{{}}}, {Done: []api.Done{{}}}}
	change := func(f func(t *api.Table)) {
		t := small()
		f(&t)
		l = append(l, t)
	}
	for _, n := range numbers {
		change(func(t *api.Table) { t.Index = n })
		change(func(t *api.Table) { t.Epoch = n })
		change(func(t *api.Table) { t.Cells[0].Ver = n })
		change(func(t *api.Table) { t.Done[1].Ver = n })
		change(func(t *api.Table) { t.Done[1].Seq = n })
		change(func(t *api.Table) { t.Done[1].Client = n })
	}
	for _, k := range keys {
		change(func(t *api.Table) { t.Cells[0].Key = k })
	}
	for _, v := range values {
		change(func(t *api.Table) { t.Cells[1].Value = v })
	}
	change(func(t *api.Table) { slices.Reverse(t.Cells) })
	change(func(t *api.Table) { slices.Reverse(t.Done) })
	change(func(t *api.Table) { t.Done = nil })
	change(func(t *api.Table) { t.Cells = nil })
	more := wide()
	more.Cells = append(more.Cells, api.Cell{Key: key("b"), Ver: 1 << 30, Value: "x"})
	more.Index += 1 << 30
	fifth := wide()
	fifth.Done = append(fifth.Done, api.Done{Client: 4, Seq: 1, Ver: 1})
	return append(l, more, fifth)
}

// chains is ones that may be, the zero one, and ones that can't be.
func chains() []api.Chain {
	at := func(l ...int) []api.Member {
		var out []api.Member
		for i := 0; i < len(l); i += 3 {
			out = append(out, api.Member{Node: l[i], Site: l[i+1], Fresh: l[i+2] == 1})
		}
		return out
	}
	l := []api.Chain{
		{}, {Members: []api.Member{}}, {Epoch: 1, Members: at(4, 1, 0)}, {Epoch: top, Members: at(5, 0, 0, 0, 0, 1, 1, 1, 1, 2, 1, 0, 3, 2, 1, 4, 2, 1)},
		{Epoch: 1}, {Members: at(0, 0, 0)}, {Epoch: 1, Members: at(0, 0, 1)}, {Epoch: 1, Members: at(0, 1, 0, 1, 0, 0)},
		{Epoch: 1, Members: at(0, 0, 0, 0, 0, 0)}, {Epoch: 2, Members: at(6, 0, 0)}, {Epoch: 2, Members: at(-1, 0, 0)}, {Epoch: 2, Members: at(0, 3, 0)}, {Epoch: 2, Members: at(0, -1, 0)},
		{Epoch: 2, Members: at(0, 0, 0, 1, 0, 0, 2, 0, 0, 3, 0, 0, 4, 0, 0, 5, 0, 0, 0, 0, 0)},
	}
	for _, n := range numbers {
		l = append(l, api.Chain{Epoch: n, Members: at(0, 0, 0, 1, 2, 1)})
	}
	return l
}

func commands() []api.Command {
	var l []api.Command
	for _, kind := range []int{-1, 0, 1, 2, 3, 4, 5, 6, 200} {
		for _, node := range []int{-1, 0, 1, 5, 6} {
			for _, site := range []int{-1, 0, 1, 2, 3} {
				for _, epoch := range []int{-1, 0, 1, 300, top, top + 1} {
					l = append(l, api.Command{Kind: kind, Node: node, Site: site, Epoch: epoch})
				}
			}
		}
	}
	return l
}

func rowLists() [][]api.Row {
	full := api.Row{Term: top, Data: slices.Repeat([]byte{255}, 64)}
	one := api.Row{Term: 1}
	l := [][]api.Row{nil, {}, {one}, {full, full, full, full}, {full, one, full, one, one}, {one, one, one, one, one}, {{Term: 2, Data: []byte{}}}, {{Term: 2, Data: make([]byte, 65)}}, {one, one, one, {Term: 3, Data: make([]byte, 65)}}}
	for _, n := range numbers {
		l = append(l, []api.Row{{Term: n, Data: []byte{1, 2}}}, []api.Row{one, one, one, {Term: n}})
	}
	return l
}

func recordLists() [][]api.Record {
	long := api.Record{Index: top, Epoch: top, Key: key("abcdefgh"), Ver: top, Value: strings.Repeat("v", 24), Req: api.Req{Client: 3, Seq: top}}
	x := record()
	l := [][]api.Record{nil, {}, {x}, {x, x}, {long, long, long, long}, {x, long, x, long, x}}
	for _, y := range recordsOf() {
		l = append(l, []api.Record{y}, []api.Record{x, x, x, y})
	}
	return l
}

// made is what fieldValues made: it is asked for very often.
var made = map[string][]any{}

// fieldValues is all that a field is tried with: what may be, and what can't. Nobody changes what is in it.
func fieldValues(field string) []any {
	if made[field] == nil {
		made[field] = makeValues(field)
	}
	return made[field]
}

func makeValues(field string) []any {
	switch field {
	case "Yes":
		return []any{false, true}
	case "Err":
		return anys([]api.Errno{math.MinInt, -1, 0, 1, 152, 254, 255, 256, top, math.MaxInt})
	case "Req":
		return anys(reqs())
	case "Key":
		return anys(keys)
	case "Value":
		return anys(values)
	case "Pass":
		return anys([][]byte{nil, {}, {0}, slices.Repeat([]byte{200}, 119), slices.Repeat([]byte{200}, 120), slices.Repeat([]byte{200}, 121), make([]byte, 5000)})
	case "Rows":
		return anys(rowLists())
	case "Recs":
		return anys(recordLists())
	case "Table":
		return anys(tables())
	case "Chain":
		return anys(chains())
	case "Cmd":
		return anys(commands())
	}
	return anys(numbers)
}

func anys[T any](l []T) []any {
	var out []any
	for _, x := range l {
		out = append(out, x)
	}
	return out
}

// same tells whether two messages are; lists without items are alike.
func same(a, b api.Msg) bool {
	for _, f := range order {
		x, y := place(&a, f).Interface(), place(&b, f).Interface()
		if !(empty(x) && empty(y)) && !reflect.DeepEqual(plain(x), plain(y)) {
			return false
		}
	}
	return a.Kind == b.Kind && a.From == b.From && a.To == b.To
}

// plain is a field whose inner lists without items are nil.
func plain(x any) any {
	switch x := x.(type) {
	case []api.Row:
		l := slices.Clone(x)
		for i := range l {
			if len(l[i].Data) == 0 {
				l[i].Data = nil
			}
		}
		return l
	case api.Table:
		if len(x.Cells) == 0 {
			x.Cells = nil
		}
		if len(x.Done) == 0 {
			x.Done = nil
		}
		return x
	}
	return x
}

// valid is a message of a kind that may be, each of its fields another one than zero.
func valid(kind int) api.Msg {
	m := api.Msg{Kind: kind, From: 3, To: 12}
	for i, f := range order {
		if !has(kind, f) {
			continue
		}
		for _, x := range fieldValues(f) {
			if !empty(x) && right(kind, x) {
				place(&m, f).Set(reflect.ValueOf(x))
				if n, ok := x.(int); ok && n > 0 {
					place(&m, f).SetInt(int64(100 + 7*i)) // unlike the others
				}
				break
			}
		}
	}
	return m
}

// with is a message with another field.
func with(m api.Msg, field string, x any) api.Msg {
	place(&m, field).Set(reflect.ValueOf(x))
	return m
}
