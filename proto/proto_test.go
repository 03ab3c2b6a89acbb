package proto_test

import (
	"bytes"
	"math"
	"math/rand/v2"
	"reflect"
	"slices"
	"strings"
	"testing"

	"towline/api"
	"towline/proto"
)

// P15.2: the chapter's example, and one of each sort of field, byte by byte.
func TestExamples(t *testing.T) {
	member := func(node, site int, fresh bool) api.Member {
		return api.Member{Node: node, Site: site, Fresh: fresh}
	}
	for _, c := range []struct {
		m    api.Msg
		want []byte
	}{
		{api.Msg{Kind: api.MSure, From: 0, To: 6, Epoch: 2, Nonce: 5}, []byte{6, 0, 6, 2, 5}},
		{api.Msg{Kind: api.MVote, From: 6, To: 8, Term: 300, Index: 2, Last: 1}, []byte{1, 6, 8, 172, 2, 2, 1}},
		{api.Msg{Kind: api.MGrant, From: 6, To: 8, Term: 3, Yes: true}, []byte{2, 6, 8, 3, 1}},
		{api.Msg{Kind: api.MFeed, From: 6, To: 7, Term: 9, Prev: 8, Last: 7, Commit: 6, Round: 5, Rows: []api.Row{{Term: 4}, {Term: 3, Data: []byte{200, 201}}}}, []byte{3, 6, 7, 9, 8, 7, 6, 5, 2, 4, 0, 3, 2, 200, 201}},
		{api.Msg{Kind: api.MFed, From: 7, To: 6, Term: 9, Index: 8, Round: 5}, []byte{4, 7, 6, 9, 8, 5, 0}},
		{api.Msg{Kind: api.MTell, From: 1, To: 6, Cmd: api.Command{Kind: 2, Node: 5, Site: 1, Epoch: 300}}, []byte{5, 1, 6, 5, 2, 5, 1, 172, 2}},
		{api.Msg{Kind: api.MChain, From: 6, To: 0, Epoch: 4, Nonce: 3, Chain: api.Chain{Epoch: 5, Members: []api.Member{member(4, 0, false), member(1, 2, true)}}}, []byte{7, 6, 0, 4, 3, 5, 2, 4, 0, 0, 1, 2, 1}},
		{api.Msg{Kind: api.MChain, From: 6, To: 0}, []byte{7, 6, 0, 0, 0, 0, 0}},
		{api.Msg{Kind: api.MPut, From: 0, To: 1, Epoch: 9, Index: 8, Prev: 7, Last: 6, Commit: 5, Recs: []api.Record{record()}}, []byte{8, 0, 1, 9, 8, 7, 6, 5, 1, 3, 2, 2, 'a', 'b', 1, 1, 'x', 1, 4}},
		{api.Msg{Kind: api.MAck, From: 1, To: 0, Epoch: 9, Commit: 8}, []byte{9, 1, 0, 9, 8}},
		{api.Msg{Kind: api.MBase, From: 0, To: 1, Epoch: 9, Table: small()}, []byte{10, 0, 1, 9, 7, 3, 2, 1, 'a', 2, 1, 'x', 2, 'a', 'b', 5, 3, 0xe6, 0x97, 0xa5, 2, 0, 172, 2, 2, 3, 1, 5}},
		{api.Msg{Kind: api.MBase, From: 0, To: 1}, []byte{10, 0, 1, 0, 0, 0, 0, 0}},
		{api.Msg{Kind: api.MHave, From: 1, To: 0, Epoch: 9, Index: 8, Yes: true}, []byte{11, 1, 0, 9, 8, 1}},
		{api.Msg{Kind: api.MAsk, From: 1, To: 0, Epoch: 9, Nonce: 8, Key: key("é")}, []byte{12, 1, 0, 9, 8, 2, 0xc3, 0xa9}},
		{api.Msg{Kind: api.MVer, From: 0, To: 1, Epoch: 9, Nonce: 8, Ver: 7}, []byte{13, 0, 1, 9, 8, 7}},
		{api.Msg{Kind: api.MWrite, From: 9, To: 0, Req: api.Req{Client: 0, Seq: 1}, Key: key("a"), Value: "x", Pass: []byte{255}}, []byte{14, 9, 0, 0, 1, 1, 'a', 1, 'x', 1, 255}},
		{api.Msg{Kind: api.MRead, From: 12, To: 0, Mode: 1, Bound: 9, Req: api.Req{Client: 3, Seq: 2}, Key: key("a")}, []byte{15, 12, 0, 1, 9, 3, 2, 1, 'a', 0}},
		{api.Msg{Kind: api.MDone, From: 0, To: 9, Ver: 3, Err: 152, Req: api.Req{Client: 0, Seq: 1}, Value: "x", Pass: []byte{7}, Chain: api.Chain{Epoch: 2, Members: []api.Member{member(0, 0, false)}}}, []byte{16, 0, 9, 152, 1, 3, 0, 1, 1, 'x', 1, 7, 2, 1, 0, 0, 0}},
	} {
		b, e := proto.Put(c.m)
		if e != api.OK || !bytes.Equal(b, seal(c.want)) {
			t.Errorf("%+v: %v, %d, not %v", c.m, b, e, seal(c.want))
		}
		if m, e := proto.Get(seal(c.want)); e != api.OK || !same(m, c.m) {
			t.Errorf("%v: %+v, %d", c.want, m, e)
		}
	}
}

// judge holds Check, Put and Get of a message against the chapter's words, and tells whether it may be.
func judge(t *testing.T, m api.Msg) bool {
	t.Helper()
	e := proto.Check(m)
	b, f := proto.Put(m)
	if !mayBe(m) {
		if e != api.ErrMsg || f != api.ErrMsg || len(b) > 0 {
			t.Fatalf("%+v can't be: %d, %v, %d", m, e, b, f)
		}
		return false
	}
	if e != api.OK || f != api.OK || !bytes.Equal(b, seal(payload(m))) {
		t.Fatalf("%+v: %d, %v, %d, not %v", m, e, b, f, seal(payload(m)))
	}
	if got, e := proto.Get(b); e != api.OK || !same(got, m) {
		t.Fatalf("%+v: got %+v, %d", m, got, e)
	}
	return true
}

// refused checks that bytes are no message.
func refused(t *testing.T, b []byte) {
	t.Helper()
	if m, e := proto.Get(b); e != api.ErrMsg || !reflect.DeepEqual(m, api.Msg{}) {
		t.Fatalf("%v: %+v, %d", b, m, e)
	}
}

// P15.1 to P15.3: of each kind each field, its own and another's, with all that it is tried with.
func TestFields(t *testing.T) {
	for kind := range chapter {
		base := valid(kind)
		if !judge(t, base) || !judge(t, valid(kind)) {
			t.Fatalf("%+v can't be", base)
		}
		for _, f := range order {
			may, not := 0, 0
			for _, x := range fieldValues(f) {
				m := with(base, f, x)
				if judge(t, m) {
					may++
					continue
				}
				not++
				if has(kind, f) {
					refused(t, seal(payload(m)))
				}
			}
			// Of a kind that has a Yes, both may be.
			if may == 0 || not == 0 && !(has(kind, f) && f == "Yes") {
				t.Errorf("kind %d, %s: %d may be, %d not", kind, f, may, not)
			}
		}
	}
}

// P15.1: a kind that has nothing but zero fields, as far as these may be.
func TestZeroFields(t *testing.T) {
	for kind := -2; kind < 20; kind++ {
		m := api.Msg{Kind: kind, From: 1, To: 2, Rows: []api.Row{}, Recs: []api.Record{}, Pass: []byte{}, Table: api.Table{Cells: []api.Cell{}, Done: []api.Done{}}, Chain: api.Chain{Members: []api.Member{}}}
		want := chapter[kind] != "" && !has(kind, "Req") && !has(kind, "Key") && !has(kind, "Cmd")
		if judge(t, m) != want {
			t.Error(kind)
		}
	}
	for _, kind := range []int{math.MinInt, -1, 0, 17, 255, 256 + 6, 1<<32 + 6, math.MaxInt} {
		if judge(t, api.Msg{Kind: kind, From: 1, To: 2}) {
			t.Error(kind)
		}
		refused(t, seal(payload(api.Msg{Kind: kind, From: 1, To: 2, Epoch: 1})))
	}
}

// P15.1: places.
func TestPlaces(t *testing.T) {
	l := []int{math.MinInt, math.MaxInt, 1 << 32, 256}
	for n := -2; n < 16; n++ {
		l = append(l, n)
	}
	may := 0
	for _, from := range l {
		for _, to := range l {
			m := valid(api.MSure)
			m.From, m.To = from, to
			if judge(t, m) {
				may++
				continue
			}
			refused(t, seal(payload(m)))
		}
	}
	if may != 13*12 {
		t.Error(may)
	}
}

// random is a message of a kind, of fields that may be, and now and then of one that can't.
func random(r *rand.Rand, kind int) api.Msg {
	m := valid(kind)
	m.From, m.To = r.IntN(13), r.IntN(13)
	for _, f := range order {
		l := fieldValues(f)
		x := l[r.IntN(len(l))]
		if has(kind, f) && (right(kind, x) || r.IntN(20) == 0) {
			place(&m, f).Set(reflect.ValueOf(x))
		}
	}
	return m
}

// P15.1 to P15.3: many fields at once.
func TestRandom(t *testing.T) {
	r := rand.New(rand.NewPCG(15, 1))
	may, all := 0, 3000
	for range all {
		if judge(t, random(r, 1+r.IntN(16))) {
			may++
		}
	}
	if may < all/3 || may > all*19/20 {
		t.Error(may)
	}
}

// P15.4: whatever bytes are got, they are put so again; others are no message.
func TestOneForm(t *testing.T) {
	r := rand.New(rand.NewPCG(15, 4))
	got := 0
	for range 40000 {
		b := bytes.Clone(payload(random(r, 1+r.IntN(16))))
		for range r.IntN(3) {
			i := r.IntN(len(b))
			switch r.IntN(4) {
			case 0:
				b[i] = byte(r.Uint32())
			case 1:
				b[i] ^= 1 << r.IntN(8)
			case 2:
				b = slices.Delete(b, i, i+1)
			case 3:
				b = slices.Insert(b, i, byte(r.IntN(3)))
			}
		}
		if len(b) > api.MaxFrame {
			continue
		}
		m, e := proto.Get(seal(b))
		if e != api.OK {
			if e != api.ErrMsg || !reflect.DeepEqual(m, api.Msg{}) {
				t.Fatalf("%v: %+v, %d", b, m, e)
			}
			continue
		}
		got++
		if again, e := proto.Put(m); e != api.OK || !bytes.Equal(again, seal(b)) || !mayBe(m) {
			t.Fatalf("%v: %+v, %v, %d", b, m, again, e)
		}
	}
	if got < 10000 {
		t.Error(got)
	}
}

// P15.2: a record that was cut, changed, or has something behind it is no message.
func TestDamaged(t *testing.T) {
	for kind := range chapter {
		b, _ := proto.Put(valid(kind))
		for i := range b {
			refused(t, b[:i])
			for bit := range 8 {
				c := bytes.Clone(b)
				c[i] ^= 1 << bit
				refused(t, c)
			}
		}
		for _, more := range [][]byte{{0}, {1}, {128}, b} {
			refused(t, append(bytes.Clone(b), more...))
		}
		data := payload(valid(kind))
		for i := range data {
			refused(t, seal(data[:i]))
		}
		for _, more := range [][]byte{{0}, {1}, {128}} {
			refused(t, seal(append(bytes.Clone(data), more...)))
		}
	}
	for _, b := range [][]byte{nil, {}, {0}, seal(nil), seal([]byte{6}), seal([]byte{6, 0}), seal([]byte{6, 0, 6}), seal(make([]byte, 100)), seal(slices.Repeat([]byte{255}, 100)), seal(make([]byte, api.MaxFrame)), seal(make([]byte, api.MaxFrame+1)), make([]byte, 1<<20)} {
		refused(t, b)
	}
}

// P15.2: numbers, keys, bools and counts in another form than their one are no message's.
func TestOtherForms(t *testing.T) {
	refused(t, []byte{133, 0, 6, 0, 6, 2, 5})
	for _, b := range [][]byte{
		{134, 0, 0, 6, 2, 5}, {6, 128, 0, 6, 2, 5}, {6, 0, 134, 0, 2, 5}, {6, 0, 6, 130, 0, 5}, {6, 0, 6, 2, 133, 0}, // MSure, noughts behind
		{6, 0, 6, 2, 255, 255, 255, 255, 255, 255, 255, 255, 255, 1}, // and a nonce of 64 bits
		{2, 6, 8, 3, 2}, {2, 6, 8, 3, 129, 0}, {11, 1, 0, 9, 8, 2}, {4, 7, 6, 9, 8, 5, 255, 1}, // Yes
		{12, 1, 0, 9, 8, 0}, {12, 1, 0, 9, 8, 2, 'a', 0}, {12, 1, 0, 9, 8, 8, 'a', 0, 0, 0, 0, 0, 0, 0}, {12, 1, 0, 9, 8, 1, 0}, {12, 1, 0, 9, 8, 2, 0, 'a'}, {12, 1, 0, 9, 8, 1, 200}, {12, 1, 0, 9, 8, 9, 'a', 'a', 'a', 'a', 'a', 'a', 'a', 'a', 'a'}, // Key
		{7, 6, 0, 4, 3, 5, 1, 4, 0, 2}, {7, 6, 0, 4, 3, 0, 1, 4, 0, 0}, {7, 6, 0, 4, 3, 5, 0}, {7, 6, 0, 4, 3, 5, 129, 0, 4, 0, 0}, // Chain
		{5, 1, 6, 4, 1, 2, 0}, {5, 1, 6, 3, 1, 2, 0}, {5, 1, 6, 5, 1, 2, 0, 1, 0}, {5, 1, 6, 5, 1, 2, 0, 129, 0}, {5, 1, 6, 0}, {5, 1, 6, 4, 1, 2, 1, 1}, {5, 1, 6, 132, 0, 1, 2, 0, 1}, // Cmd
		{3, 6, 7, 9, 8, 7, 6, 5, 2, 4, 0}, {3, 6, 7, 9, 8, 7, 6, 5, 1, 4, 0, 4, 0}, {3, 6, 7, 9, 8, 7, 6, 5, 5, 4, 0, 4, 0, 4, 0, 4, 0, 4, 0}, {3, 6, 7, 9, 8, 7, 6, 5, 1, 4, 128, 0}, // Rows
		{10, 0, 1, 9, 0, 0, 0}, {10, 0, 1, 9, 0, 0, 128, 0, 0}, {10, 0, 1, 9, 0, 0, 255, 255, 255, 255, 15, 0}, // Table
	} {
		refused(t, seal(b))
	}
}

// P15.5: the longest message of each kind has a record, of less than a tenth of what there is room for.
func TestLongest(t *testing.T) {
	longest := func(kind int, f string) any {
		var most any
		size := -1
		for _, x := range fieldValues(f) {
			var b bin
			if b.any(x); right(kind, x) && len(b) > size {
				most, size = x, len(b)
			}
		}
		return most
	}
	for kind := range chapter {
		m := api.Msg{Kind: kind, From: 11, To: 12}
		for _, f := range order {
			if has(kind, f) {
				m = with(m, f, longest(kind, f))
			}
		}
		if !judge(t, m) {
			t.Fatalf("%+v can't be", m)
		}
		if b, _ := proto.Put(m); len(b) > api.MaxFrame/10 {
			t.Error(kind, len(b))
		}
	}
}

// P15.1, P15.3, P15.4: records by themselves.
func TestRecords(t *testing.T) {
	may, not := 0, 0
	for _, x := range recordsOf() {
		var want bin
		want.record(x)
		b := proto.PutRecord(nil, x)
		if isRecord(x) && !bytes.Equal(b, want) {
			t.Fatalf("%+v: %v, not %v", x, b, want)
		}
		if !isRecord(x) {
			not++
			noRecord(t, b)
			noRecord(t, want)
			continue
		}
		may++
		if got, e := proto.GetRecord(b); e != api.OK || got != x {
			t.Fatalf("%+v: %+v, %d", x, got, e)
		}
		for i := range b {
			noRecord(t, b[:i])
		}
		noRecord(t, append(bytes.Clone(b), 0))
		noRecord(t, append(bytes.Clone(b), b...))
	}
	if may < 30 || not < 30 {
		t.Error(may, not)
	}
	for _, b := range [][]byte{nil, {}, {131, 0, 2, 1, 'a', 1, 1, 'x', 1, 4}, {3, 2, 2, 'a', 0, 1, 1, 'x', 1, 4}, {3, 2, 1, 'a', 1, 129, 0, 'x', 1, 4}, {3, 2, 1, 'a', 1, 1, 'x', 1, 132, 0}, make([]byte, 1<<20), slices.Repeat([]byte{255}, 1000)} {
		noRecord(t, b)
	}
}

func noRecord(t *testing.T, b []byte) {
	t.Helper()
	if x, e := proto.GetRecord(b); e != api.ErrMsg || x != (api.Record{}) {
		t.Fatalf("%v: %+v, %d", b, x, e)
	}
}

// P15.1, P15.3, P15.4: tables by themselves.
func TestTables(t *testing.T) {
	may, not := 0, 0
	for _, x := range tables() {
		var want bin
		want.table(x)
		b := proto.PutTable(nil, x)
		if !right(0, x) {
			not++
			noTable(t, b)
			noTable(t, want)
			continue
		}
		may++
		if !bytes.Equal(b, want) {
			t.Fatalf("%+v: %v, not %v", x, b, want)
		}
		if got, e := proto.GetTable(b); e != api.OK || !reflect.DeepEqual(plain(got), plain(x)) {
			t.Fatalf("%+v: %+v, %d", x, got, e)
		}
		for i := range b {
			noTable(t, b[:i])
		}
		noTable(t, append(bytes.Clone(b), 0))
		noTable(t, append(bytes.Clone(b), b...))
	}
	if may < 10 || not < 30 {
		t.Error(may, not)
	}
	for _, b := range [][]byte{nil, {}, {128, 0, 0, 0, 0}, {0, 0, 0, 128, 0}, {1, 1, 1, 2, 'a', 0, 1, 1, 'x', 1, 0, 1, 1}, {1, 1, 1, 1, 'a', 1, 1, 'x', 1, 0, 129, 0, 1}, make([]byte, 1<<20), slices.Repeat([]byte{255}, 1000)} {
		noTable(t, b)
	}
}

func noTable(t *testing.T, b []byte) {
	t.Helper()
	if x, e := proto.GetTable(b); e != api.ErrMsg || !reflect.DeepEqual(x, api.Table{}) {
		t.Fatalf("%v: %+v, %d", b, x, e)
	}
}

// P15.1: chains, the zero one too, behind bytes; so records and tables.
func TestPutBehind(t *testing.T) {
	for _, ahead := range [][]byte{nil, {}, {9}, {128, 0, 255}, make([]byte, 300)} {
		for _, c := range chains() {
			want := bin(bytes.Clone(ahead))
			want.chain(c)
			if b := proto.PutChain(ahead, c); right(0, c) && !bytes.Equal(b, want) {
				t.Fatalf("%+v: %v, not %v", c, b, want)
			}
		}
		want := bin(bytes.Clone(ahead))
		want.record(record())
		if b := proto.PutRecord(ahead, record()); !bytes.Equal(b, want) {
			t.Fatal(b)
		}
		want = bin(bytes.Clone(ahead))
		want.table(wide())
		if b := proto.PutTable(ahead, wide()); !bytes.Equal(b, want) {
			t.Fatal(b)
		}
	}
}

// The rule Ends: very long lists, made by hand.
func TestHuge(t *testing.T) {
	const many = 300000
	x := api.Table{Cells: make([]api.Cell, many), Done: make([]api.Done, many)}
	c := api.Chain{Epoch: 1, Members: make([]api.Member, many)}
	noTable(t, proto.PutTable(nil, x))
	proto.PutChain(nil, c)
	proto.PutRecord(make([]byte, many), api.Record{Value: strings.Repeat("v", many)})
	for _, m := range []api.Msg{
		{Kind: api.MBase, To: 1, Table: x}, {Kind: api.MChain, To: 1, Chain: c}, {Kind: api.MFeed, To: 1, Rows: make([]api.Row, many)},
		{Kind: api.MPut, To: 1, Recs: make([]api.Record, many)}, {Kind: api.MWrite, From: 9, Req: api.Req{Seq: 1}, Key: key("a"), Value: strings.Repeat("v", many)},
		{Kind: api.MWrite, From: 9, Req: api.Req{Seq: 1}, Key: key("a"), Value: "v", Pass: make([]byte, many)},
	} {
		if judge(t, m) {
			t.Error(m.Kind)
		}
	}
}

// roomy is a list with room behind its end, filled with something.
func roomy[T any](l []T, fill T) []T {
	out := append(slices.Clone(l), fill, fill, fill)
	return out[:len(l)]
}

// spoil writes all over a list, its spare room too.
func spoil[T any](l []T, x T) {
	l = l[:cap(l)]
	for i := range l {
		l[i] = x
	}
}

// scribble writes all over the lists of a message.
func scribble(m api.Msg) {
	for _, x := range m.Rows {
		spoil(x.Data, 77)
	}
	spoil(m.Rows, api.Row{Term: 77})
	spoil(m.Recs, api.Record{Index: 77})
	spoil(m.Pass, 77)
	spoil(m.Table.Cells, api.Cell{Ver: 77})
	spoil(m.Table.Done, api.Done{Ver: 77})
	spoil(m.Chain.Members, api.Member{Node: 77})
}

// The rule Memory: what is handed in stays, with the room behind it; what is answered shares nothing.
func TestMemory(t *testing.T) {
	for kind := range chapter {
		m, want := valid(kind), valid(kind)
		m.Rows, m.Recs, m.Pass = roomy(m.Rows, api.Row{Term: 55}), roomy(m.Recs, api.Record{Index: 55}), roomy(m.Pass, 55)
		if has(kind, "Rows") {
			m.Rows[0].Data = roomy(m.Rows[0].Data, 55)
		}
		m.Table.Cells, m.Table.Done = roomy(m.Table.Cells, api.Cell{Ver: 55}), roomy(m.Table.Done, api.Done{Ver: 55})
		m.Chain.Members = roomy(m.Chain.Members, api.Member{Node: 55})
		b, _ := proto.Put(m)
		other, _ := proto.Put(m)
		spoil(other, 77)
		if !same(m, want) || m.Rows[:1+len(m.Rows)][len(m.Rows)].Term != 55 || m.Recs[:1+len(m.Recs)][len(m.Recs)].Index != 55 || m.Pass[:1+len(m.Pass)][len(m.Pass)] != 55 || m.Table.Cells[:1+len(m.Table.Cells)][len(m.Table.Cells)].Ver != 55 || m.Chain.Members[:1+len(m.Chain.Members)][len(m.Chain.Members)].Node != 55 {
			t.Fatalf("%+v", m)
		}
		bytesWere := bytes.Clone(b)
		room := roomy(b, 55)
		got, _ := proto.Get(room)
		again, _ := proto.Get(room)
		scribble(got)
		if !same(again, want) || !bytes.Equal(room, bytesWere) || room[:len(room)+1][len(room)] != 55 {
			t.Fatalf("%+v", again)
		}
	}
}

// The rule Memory: no two lists of one answer share anything.
func TestMemoryWithin(t *testing.T) {
	m := api.Msg{Kind: api.MFeed, From: 6, To: 7, Rows: []api.Row{{Term: 1, Data: []byte("ab")}, {Term: 2, Data: []byte("cd")}}}
	b, _ := proto.Put(m)
	got, _ := proto.Get(b)
	spoil(got.Rows[0].Data, 77)
	if string(got.Rows[1].Data) != "cd" {
		t.Error(got.Rows)
	}
	got, _ = proto.Get(b)
	spoil(got.Rows[1].Data, 77)
	if string(got.Rows[0].Data) != "ab" {
		t.Error(got.Rows)
	}
}

// The rule Memory: bytes that something is put behind.
func TestMemoryBehind(t *testing.T) {
	for name, put := range map[string]func(b []byte) []byte{
		"record": func(b []byte) []byte { return proto.PutRecord(b, record()) },
		"table":  func(b []byte) []byte { return proto.PutTable(b, small()) },
		"chain":  func(b []byte) []byte { return proto.PutChain(b, api.Chain{}) },
	} {
		for _, n := range []int{0, 1, 5} {
			room := bytes.Repeat([]byte{55}, 200)
			first, second := put(room[:n]), put(room[:n])
			want := bytes.Clone(first)
			spoil(second, 77)
			if !bytes.Equal(first, want) || !bytes.Equal(room, bytes.Repeat([]byte{55}, 200)) {
				t.Errorf("%s behind %d", name, n)
			}
		}
	}
	var b bin
	b.record(record())
	room := roomy([]byte(b), 55)
	if x, e := proto.GetRecord(room); e != api.OK || x != record() || !bytes.Equal(room, b) || room[:len(b)+1][len(b)] != 55 {
		t.Error(x, e)
	}
	b = nil
	b.table(small())
	room = roomy([]byte(b), 55)
	x, _ := proto.GetTable(room)
	y, e := proto.GetTable(room)
	scribble(api.Msg{Table: x})
	if e != api.OK || !reflect.DeepEqual(y, small()) || !bytes.Equal(room, b) || room[:len(b)+1][len(b)] != 55 {
		t.Error(y, e)
	}
}
