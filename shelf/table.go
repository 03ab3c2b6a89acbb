package shelf

import (
	"maps"
	"slices"

	"towline/api"
)

// Check tells whether a table may be.
func Check(t api.Table) api.Errno {
	if !isPlace(t) || !areCells(t) || !areDone(t) {
		return api.ErrStore
	}
	return api.OK
}

// isPlace tells whether a table's index and epoch may be: both are 0 of no records alone.
func isPlace(t api.Table) bool {
	isNumber := func(n int) bool { return n >= 0 && n <= api.MaxIndex }
	return isNumber(t.Index) && isNumber(t.Epoch) && (t.Index == 0) == (t.Epoch == 0)
}

// isVersion tells whether a record up to a table's index may have a version.
func isVersion(t api.Table, ver int) bool { return ver >= 1 && ver <= t.Index }

// areCells tells whether a table's cells may be: each of its records is counted by one of their versions.
func areCells(t api.Table) bool {
	if len(t.Cells) > api.MaxKeys {
		return false
	}
	records := 0
	for i, c := range t.Cells {
		rises := i == 0 || compare(t.Cells[i-1].Key, c.Key) < 0
		if !rises || Right(c.Key, c.Value) != api.OK || !isVersion(t, c.Ver) {
			return false
		}
		records += c.Ver
	}
	return records == t.Index
}

// areDone tells whether a table's requests may be. That they are at most as many as clients follows: these rise.
func areDone(t api.Table) bool {
	for i, d := range t.Done {
		rises := i == 0 || t.Done[i-1].Client < d.Client
		if !rises || !isRequest(api.Req{Client: d.Client, Seq: d.Seq}) || !isVersion(t, d.Ver) {
			return false
		}
	}
	return len(t.Done) > 0 || t.Index == 0
}

// sums is what the records up to an index make.
type sums struct {
	index int
	epoch int
	cells map[api.Key]api.Cell
	done  [api.MaxClients]api.Done // the zero one of a client that is not done
}

// sumsOf is those of a table that may be.
func sumsOf(t api.Table) sums {
	m := sums{index: t.Index, epoch: t.Epoch, cells: map[api.Key]api.Cell{}}
	for _, c := range t.Cells {
		m.cells[c.Key] = c
	}
	for _, d := range t.Done {
		m.done[d.Client] = d
	}
	return m
}

// with is sums in memory of their own, and records behind them.
func (m sums) with(l []api.Record) sums {
	m.cells = maps.Clone(m.cells)
	for _, x := range l {
		m.index, m.epoch = x.Index, x.Epoch
		m.cells[x.Key] = api.Cell{Key: x.Key, Ver: x.Ver, Value: x.Value}
		m.done[x.Req.Client] = api.Done{Client: x.Req.Client, Seq: x.Req.Seq, Ver: x.Ver}
	}
	return m
}

// table is sums as lists.
func (m sums) table() api.Table {
	t := api.Table{Index: m.index, Epoch: m.epoch}
	for _, c := range m.cells {
		t.Cells = append(t.Cells, c)
	}
	slices.SortFunc(t.Cells, func(a, b api.Cell) int { return compare(a.Key, b.Key) })
	for _, d := range m.done {
		if d.Seq > 0 {
			t.Done = append(t.Done, d)
		}
	}
	return t
}
