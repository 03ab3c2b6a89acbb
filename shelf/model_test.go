package shelf_test

import (
	"cmp"
	"fmt"
	"slices"
	"strconv"
	"strings"
	"unicode/utf8"

	"towline/api"
)

// key is a short text as a key.
func key(s string) api.Key {
	var k api.Key
	copy(k[:], s)
	return k
}

// isKey is the chapter's words of a key: bytes of a text, and noughts behind.
func isKey(k api.Key) bool {
	size := 0
	for size < len(k) && k[size] != 0 {
		size++
	}
	for _, x := range k[size:] {
		if x != 0 {
			return false
		}
	}
	return size > 0 && utf8.Valid(k[:size])
}

func isValue(v string) bool { return utf8.ValidString(v) && len(v) > 0 && len(v) < 25 }

// keep is what a shelf keeps, as lists: the chapter's words, one by one.
type keep struct {
	low    api.Table
	tail   []api.Record
	commit int
}

// all is the table and records behind it, as they make one table.
func (m *keep) all(l []api.Record) api.Table {
	t := m.low
	t.Cells, t.Done = slices.Clone(t.Cells), slices.Clone(t.Done)
	for _, x := range l {
		t.Index, t.Epoch = x.Index, x.Epoch
		t.Cells = slices.DeleteFunc(t.Cells, func(c api.Cell) bool { return c.Key == x.Key })
		t.Cells = append(t.Cells, api.Cell{Key: x.Key, Ver: x.Ver, Value: x.Value})
		t.Done = slices.DeleteFunc(t.Done, func(d api.Done) bool { return d.Client == x.Req.Client })
		t.Done = append(t.Done, api.Done{Client: x.Req.Client, Seq: x.Req.Seq, Ver: x.Ver})
	}
	slices.SortFunc(t.Cells, func(a, b api.Cell) int { return strings.Compare(string(a.Key[:]), string(b.Key[:])) })
	slices.SortFunc(t.Done, func(a, b api.Done) int { return cmp.Compare(a.Client, b.Client) })
	return t
}

func cellOf(t api.Table, k api.Key) api.Cell {
	for _, c := range t.Cells {
		if c.Key == k {
			return c
		}
	}
	return api.Cell{}
}

func seqOf(t api.Table, client int) int {
	for _, d := range t.Done {
		if d.Client == client {
			return d.Seq
		}
	}
	return 0
}

func (m *keep) committed() []api.Record { return m.tail[:m.commit-m.low.Index] }

func (m *keep) Last() (index, epoch int) {
	index = m.low.Index + len(m.tail)
	epoch, _ = m.Epoch(index)
	return index, epoch
}

func (m *keep) Low() int    { return m.low.Index }
func (m *keep) Commit() int { return m.commit }
func (m *keep) Dirty() int  { return m.low.Index + len(m.tail) - m.commit }

func (m *keep) Epoch(index int) (int, bool) {
	for _, x := range m.tail {
		if x.Index == index {
			return x.Epoch, true
		}
	}
	if index == m.low.Index {
		return m.low.Epoch, true
	}
	return 0, false
}

func (m *keep) Known(r api.Req) (ver int, committed bool) {
	for _, x := range m.tail {
		if x.Req.Client == r.Client && x.Req.Seq == r.Seq {
			return x.Ver, x.Index <= m.commit
		}
	}
	for _, d := range m.low.Done {
		if d.Client == r.Client && d.Seq == r.Seq {
			return d.Ver, true
		}
	}
	return 0, false
}

func (m *keep) Table() api.Table { return m.all(nil) }
func (m *keep) Whole() api.Table { return m.all(m.committed()) }

func (m *keep) Behind(index, most int) ([]api.Record, bool) {
	last, _ := m.Last()
	if index < m.low.Index || index > last {
		return nil, false
	}
	var l []api.Record
	for _, x := range m.tail {
		if x.Index > index && len(l) < most {
			l = append(l, x)
		}
	}
	return l, true
}

func (m *keep) Clean(k api.Key) api.Cell { return cellOf(m.Whole(), k) }
func (m *keep) Top(k api.Key) api.Cell   { return cellOf(m.all(m.tail), k) }

func (m *keep) Of(k api.Key, ver int) (string, bool) {
	has := slices.ContainsFunc(m.low.Cells, func(c api.Cell) bool { return c.Key == k })
	if has && cellOf(m.low, k).Ver == ver {
		return cellOf(m.low, k).Value, true
	}
	for _, x := range m.tail {
		if x.Key == k && x.Ver == ver {
			return x.Value, true
		}
	}
	return "", !has && ver == 0
}

// against is the first thing that keeps a record from standing behind the others.
func (m *keep) against(x api.Record) api.Errno {
	t := m.all(m.tail)
	top := cellOf(t, x.Key)
	switch {
	case x.Index != t.Index+1, x.Index > 1<<40:
		return api.ErrGap
	case x.Epoch < 1, x.Epoch > 1<<40, x.Epoch < t.Epoch:
		return api.ErrEpoch
	case !isKey(x.Key), !isValue(x.Value):
		return api.ErrKey
	case x.Req.Client < 0, x.Req.Client > 3, x.Req.Seq < 1, x.Req.Seq > 1<<40:
		return api.ErrArg
	case x.Req.Seq <= seqOf(t, x.Req.Client):
		return api.ErrStale
	case x.Ver != top.Ver+1:
		return api.ErrGap
	case top.Ver == 0 && len(t.Cells) == 12:
		return api.ErrFull
	}
	return api.OK
}

func (m *keep) Next(epoch int, k api.Key, value string, r api.Req) (api.Record, api.Errno) {
	last, _ := m.Last()
	x := api.Record{Index: last + 1, Epoch: epoch, Key: k, Ver: m.Top(k).Ver + 1, Value: value, Req: r}
	e := m.against(x)
	if e == api.OK && m.Dirty() >= 8 {
		e = api.ErrFull
	}
	if e != api.OK {
		x = api.Record{}
	}
	return x, e
}

func (m *keep) Add(x api.Record) api.Errno {
	e := m.against(x)
	if e == api.OK && len(m.tail) == 24 {
		e = api.ErrFull
	}
	if e == api.OK {
		m.tail = append(slices.Clone(m.tail), x)
	}
	return e
}

func (m *keep) Cut(index int) api.Errno {
	if last, _ := m.Last(); index < m.commit || index > last {
		return api.ErrGap
	}
	m.tail = m.tail[:index-m.low.Index]
	return api.OK
}

func (m *keep) Settle(index int) api.Errno {
	if last, _ := m.Last(); index < m.commit || index > last {
		return api.ErrGap
	}
	m.commit = index
	return api.OK
}

func (m *keep) Fold(index int) api.Errno {
	if index < m.low.Index || index > m.commit {
		return api.ErrGap
	}
	n := index - m.low.Index
	m.low, m.tail = m.all(m.tail[:n]), m.tail[n:]
	return api.OK
}

// made is what records make, by the chapter's words alone: versions are counted, and what is last is looked for from the end.
func made(l []api.Record) api.Table {
	t := api.Table{Index: len(l)}
	counts, lasts := map[string]int{}, map[int]int{}
	for i, x := range l {
		t.Epoch = x.Epoch
		counts[string(x.Key[:])]++
		lasts[x.Req.Client] = i
	}
	for k, n := range counts {
		c := api.Cell{Key: api.Key([]byte(k)), Ver: n}
		for _, x := range l {
			if x.Key == c.Key {
				c.Value = x.Value
			}
		}
		t.Cells = append(t.Cells, c)
	}
	slices.SortFunc(t.Cells, func(a, b api.Cell) int { return strings.Compare(string(a.Key[:]), string(b.Key[:])) })
	for client := range 4 {
		if i, there := lasts[client]; there {
			t.Done = append(t.Done, api.Done{Client: client, Seq: l[i].Req.Seq, Ver: l[i].Ver})
		}
	}
	return t
}

// teller is what both a shelf and a keep tell.
type teller interface {
	Last() (index, epoch int)
	Low() int
	Commit() int
	Epoch(index int) (int, bool)
	Dirty() int
	Known(r api.Req) (ver int, committed bool)
	Table() api.Table
	Whole() api.Table
	Behind(index, most int) ([]api.Record, bool)
	Clean(k api.Key) api.Cell
	Top(k api.Key) api.Cell
	Of(k api.Key, ver int) (string, bool)
}

// names is more keys than a shelf has room for; they rise in another order than they stand here.
var names = []string{"m", "b", "é", "a", "ab", "zz", "k1", "k2", "k10", "日本", "x y", "h", "aa", "\x01", "abcdefgh"}

// steady is what a shelf tells that folding does not change, but for Known.
func steady(s teller) string {
	var b strings.Builder
	index, epoch := s.Last()
	fmt.Fprintln(&b, "last", index, epoch, "commit", s.Commit(), "dirty", s.Dirty(), "whole", s.Whole())
	for _, n := range names {
		fmt.Fprintln(&b, n, s.Clean(key(n)), s.Top(key(n)))
	}
	return b.String()
}

// view is all that a shelf tells.
func view(s teller) string {
	var b strings.Builder
	b.WriteString(steady(s))
	index, _ := s.Last()
	fmt.Fprintln(&b, "low", s.Low(), s.Table())
	for i := s.Low() - 2; i <= index+2; i++ {
		epoch, known := s.Epoch(i)
		fmt.Fprintln(&b, "epoch", i, epoch, known)
		for _, most := range []int{-1, 0, 1, 4, 1 << 40} {
			l, there := s.Behind(i, most)
			b.WriteString(strconv.FormatBool(there))
			for _, x := range l {
				b.WriteString(" " + strconv.Itoa(x.Index))
			}
		}
	}
	all, _ := s.Behind(s.Low(), api.MaxTail)
	fmt.Fprintln(&b, "behind", all)
	for client := -1; client <= api.MaxClients; client++ {
		for seq := -1; seq < 70; seq++ {
			if ver, committed := s.Known(api.Req{Client: client, Seq: seq}); ver != 0 || committed {
				fmt.Fprintln(&b, "known", client, seq, ver, committed)
			}
		}
	}
	for _, n := range names {
		top := s.Top(key(n)).Ver
		for ver := -1; ver <= top+1; ver++ {
			if value, there := s.Of(key(n), ver); there || value != "" {
				fmt.Fprintln(&b, "of", n, ver, value, there)
			}
		}
	}
	return b.String()
}
