package chain_test

import (
	"fmt"
	"reflect"
	"slices"
	"testing"

	"towline/api"
	"towline/chain"
)

// What lists are spoilt with, and what stands in the room behind their ends.
var (
	badRecord = api.Record{Index: -9, Value: "#"}
	badCell   = api.Cell{Ver: -9, Value: "#"}
	badDone   = api.Done{Client: -9}
	badMember = api.Member{Node: -9}
)

// spoil writes over a list, and the room behind its end.
func spoil[T any](l []T, bad T) {
	l = l[:cap(l)]
	for i := range l {
		l[i] = bad
	}
}

func spoilTable(t api.Table) {
	spoil(t.Cells, badCell)
	spoil(t.Done, badDone)
}

func spoilMsg(m api.Msg) {
	spoil(m.Recs, badRecord)
	spoilTable(m.Table)
	spoil(m.Chain.Members, badMember)
	spoil(m.Pass, '#')
}

// room is a list of its own, with something in the room behind its end; none is an empty one.
func room[T any](l []T, mark T) []T { return append(slices.Clone(l), mark)[:len(l)] }

func roomyTable(t api.Table) api.Table {
	t.Cells, t.Done = room(t.Cells, badCell), room(t.Done, badDone)
	return t
}

// roomy is a message whose lists are of its own, with room behind them.
func roomy(m api.Msg) api.Msg {
	m.Recs, m.Table, m.Chain.Members, m.Pass = room(m.Recs, badRecord), roomyTable(m.Table), room(m.Chain.Members, badMember), room(m.Pass, '#')
	return m
}

func stays[T comparable](l []T, mark T) bool { return l[:len(l)+1][len(l)] == mark }

// roomStays tells whether what stands behind the ends of a message's lists is still there.
func roomStays(m api.Msg) bool {
	return stays(m.Recs, badRecord) && stays(m.Table.Cells, badCell) && stays(m.Table.Done, badDone) && stays(m.Chain.Members, badMember) && stays(m.Pass, '#')
}

func copyTable(t api.Table) api.Table {
	t.Cells, t.Done = slices.Clone(t.Cells), slices.Clone(t.Done)
	return t
}

func copyMsg(m api.Msg) api.Msg {
	m.Recs, m.Table, m.Chain, m.Pass = slices.Clone(m.Recs), copyTable(m.Table), copyChain(m.Chain), slices.Clone(m.Pass)
	return m
}

// spoilt spoils an effect, list by list, and is a copy of it as it was: no list may change with one ahead of it.
func (x *pair) spoilt(f api.Effect) api.Effect {
	x.Helper()
	was := f
	was.Table, was.Recs, was.Send = copyTable(f.Table), slices.Clone(f.Recs), nil
	for _, m := range f.Send {
		was.Send = append(was.Send, copyMsg(m))
	}
	spoil(f.Recs, badRecord)
	if !reflect.DeepEqual(f.Table, was.Table) {
		x.Fatal("lists share", was)
	}
	spoilTable(f.Table)
	for i, m := range f.Send {
		if !reflect.DeepEqual(m, was.Send[i]) {
			x.Fatal("lists share", was)
		}
		spoilMsg(m)
	}
	spoil(f.Send, api.Msg{})
	return was
}

// The rule Memory: the key and the shelf that a node is made of are neither kept nor changed. (All other tests spoil what they hand in, and what is answered.)
func TestMemory(t *testing.T) {
	k := append([]byte(secret), "behind"...)
	on := shelfOf(t, 1, 2, 3)
	was := onShelf(on)
	s, _ := chain.New(0, k[:16], on, 1)
	if string(k) != secret+"behind" || onShelf(on) != was || on.Commit() != 2 {
		t.Error(k)
	}
	spoil(k, '#')
	on.Settle(3)
	on.Fold(3)
	x := &pair{T: t, s: s, p: plainOf(0, shelfOf(t, 1, 2, 3), 1), kept: stored(shelfOf(t, 1, 2, 3)), era: 1}
	x.adopts(row(2, 0, 1))
	x.want(x.read(0, 1, api.Eventual, 0), "", "done 0>9 ver=2 req=0.1 value=7632 chain=2 members=0.0,1.0 saw a 2")
	x.write(1, 1, "a", "x")
	s.Shelf().Settle(4)
	x.tick()
}

// Two nodes know nothing of one another, and the same calls tell the same.
func TestAlike(t *testing.T) {
	play := func() (out []string) {
		x, y := in(t, 1, shelfOf(t, 0, 1, 3), row(2, 0, 1, 2)), in(t, 1, shelfOf(t, 0, 1, 3), row(2, 0, 1, 2))
		for i := range 5 {
			out = append(out, told(x.read(i%4, i+1, api.Strong, 0)), told(x.tick()))
			y.read(3, i+1, api.Bounded, 3)
		}
		return out
	}
	if a, b := play(), play(); fmt.Sprint(a) != fmt.Sprint(b) {
		t.Error(a, b)
	}
}
