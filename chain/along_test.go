package chain_test

import (
	"fmt"
	"strings"
	"testing"

	"towline/api"
	"towline/proto"
	"towline/shelf"
	"towline/trace"
)

// hears is that a message comes, told as a text.
func (x *pair) hears(line string) api.Effect {
	x.Helper()
	m, e := trace.Parse(line)
	if e != api.OK {
		x.Fatalf("%q is no message", line)
	}
	return x.take(m)
}

// after checks what a message comes to.
func (x *pair) after(line, stored, sent string) {
	x.Helper()
	x.want(x.hears(line), stored, sent)
}

// list is records as a text.
func list(l ...api.Record) string {
	s, _ := trace.Text(api.Msg{Kind: api.MPut, To: 1, Recs: l})
	return s[strings.Index(s, "recs="):]
}

// of is a record of another epoch, of client 1.
func of(epoch int, x api.Record) api.Record {
	x.Epoch, x.Req.Client = epoch, 1
	return x
}

// P18.3, P18.9: a message of another epoch, or of another one than who may send it, changes nothing.
func TestAnotherEpoch(t *testing.T) {
	all := append(some()[3:], api.Msg{Kind: api.MAsk, From: 2, To: 1, Epoch: 2, Nonce: 4, Key: key("a")})
	for _, x := range []*pair{between(t), in(t, 1, shelfOf(t, 0, 1, 3), row(2, 0, 11, 2)), pairOf(t, 1, shelfOf(t, 0, 1, 3), 2), in(t, 1, shelf.New(), row(2, 0, 2))} {
		own := x.s.Chain().Epoch
		for _, m := range all {
			for _, epoch := range []int{own - 1, own + 1, own + 2, 1 << 40} {
				if epoch < 0 {
					continue
				}
				for from := range 13 {
					if m.Epoch, m.From = epoch, from; from != 1 {
						x.fails(m, api.ErrEpoch)
					}
				}
			}
		}
	}
}

// P18.3: who may send what along the chain.
func TestAnotherOne(t *testing.T) {
	for _, c := range []struct {
		x                     *pair
		back, next, tail, ask string
	}{
		{between(t), "0", "2", "2", ""},
		{in(t, 1, shelfOf(t, 0, 1, 3), row(2, 0, 1)), "0", "", "", "0"},
		{in(t, 1, shelfOf(t, 0, 1, 3), row(2, 3, 0, 5, 1)), "5", "", "", "0 3 5"},
		{in(t, 1, shelfOf(t, 0, 1, 3), row(2, 1, 3, 2)), "", "3", "2", ""},
		{in(t, 1, shelfOf(t, 0, 1, 3), row(2, 0, 11, 3, 2)), "0", "3", "2", ""},
		{in(t, 1, shelfOf(t, 0, 1, 3), row(2, 0, 11)), "0", "", "", ""},
		{in(t, 1, shelfOf(t, 0, 1, 3), row(2, 0, 2)), "", "", "2", ""},
		{in(t, 1, shelfOf(t, 0, 1, 3), row(2, 1)), "", "", "", ""},
		{pairOf(t, 1, shelfOf(t, 0, 1, 3), 2), "", "", "", ""},
	} {
		for _, m := range append(some()[3:], api.Msg{Kind: api.MAsk, To: 1, Nonce: 4, Key: key("a")}) {
			may := map[int]string{api.MPut: c.back, api.MBase: c.back, api.MHave: c.next, api.MAck: c.next, api.MVer: c.tail, api.MAsk: c.ask}[m.Kind]
			m.Epoch = c.x.s.Chain().Epoch
			for from := range 13 {
				if m.From = from; from == 1 {
					continue
				}
				if !strings.Contains(may, fmt.Sprint(from)) {
					c.x.fails(m, api.ErrStale)
				} else if f := pairLike(c.x).take(m); f.Err != api.OK {
					t.Error(m, f)
				}
			}
		}
	}
}

// pairLike is a new node of the same shelf and chain.
func pairLike(x *pair) *pair {
	x.Helper()
	return in(x.T, x.p.id, x.s.Shelf(), x.s.Chain())
}

// P18.3: records of which indices are not the next ones.
func TestPutOutOfRow(t *testing.T) {
	x := between(t)
	for _, l := range [][]int{{3}, {5}, {4, 4}, {4, 6}, {4, 5, 7}, {5, 4}, {1}, {4, 5, 6, 8}, {1 << 40}} {
		m := api.Msg{Kind: api.MPut, From: 0, To: 1, Epoch: 2, Prev: 3, Last: 1}
		for _, i := range l {
			m.Recs = append(m.Recs, rec(i, "a", min(i, 9)))
		}
		x.fails(m, api.ErrStale)
		m.Prev, m.Last = 90, 0
		x.fails(m, api.ErrStale)
	}
}

// P18.3: what stands ahead of the records has to be there.
func TestPutFits(t *testing.T) {
	for _, c := range []struct {
		low, commit, last int
		prev, epoch       int
		fits              bool
	}{
		{0, 0, 0, 0, 0, true}, {0, 0, 0, 0, 1, false}, {0, 0, 0, 1, 0, false}, {0, 0, 0, 1, 1, false}, {0, 0, 0, 1 << 40, 0, false},
		{0, 1, 3, 3, 1, true}, {0, 1, 3, 3, 2, false}, {0, 1, 3, 4, 1, false}, {0, 1, 3, 4, 0, false}, {0, 1, 3, 0, 0, true}, {0, 1, 3, 0, 1, false}, {0, 1, 3, 1, 2, false},
		{2, 2, 3, 2, 1, true}, {2, 2, 3, 2, 0, false}, {2, 2, 3, 1, 0, true}, {2, 2, 3, 1, 77, true}, {2, 2, 3, 0, 77, true}, {2, 2, 3, 2, 77, false},
	} {
		x := in(t, 1, shelfOf(t, c.low, c.commit, c.last), row(2, 0, 1, 2))
		m := api.Msg{Kind: api.MPut, From: 0, To: 1, Epoch: 2, Index: c.prev, Prev: c.prev, Last: c.epoch}
		answer := api.Msg{Kind: api.MHave, From: 1, To: 0, Epoch: 2, Index: c.commit}
		if c.fits {
			answer.Index, answer.Yes = c.prev, true
		}
		x.want(x.take(m), "", text(answer))
	}
	// Not even what would fit is taken behind what does not.
	x := between(t)
	x.after("put 0>1 epoch=2 index=4 prev=3 last=2 commit=3 "+list(rec(4, "a", 4)), "", "have 1>0 epoch=2 index=1")
}

// P18.3: records are added, stay, or stand in place of others that are not committed.
func TestPut(t *testing.T) {
	put := func(prev, commit int, l ...api.Record) string {
		m := api.Msg{Kind: api.MPut, From: 0, To: 1, Epoch: 2, Prev: prev, Index: prev + len(l), Commit: commit, Recs: l}
		if prev > 0 {
			m.Last = 1
		}
		return text(m)
	}
	feed := func(last, commit int) string {
		return text(api.Msg{Kind: api.MPut, From: 1, To: 2, Epoch: 2, Index: last, Prev: last, Last: 2, Commit: commit})
	}
	a := recs(9)
	for _, c := range []struct {
		name            string
		low, commit     int
		last            int
		put             string
		stored          string
		index, reported int    // what is had; what is said to be committed, if anything is
		fed             string // what is sent on
	}{
		{"nothing", 0, 1, 3, put(3, 0), "", 3, 0, ""},
		{"next", 0, 1, 3, put(3, 0, of(2, a[3])), "rec 4", 4, 0, feed(4, 1)},
		{"four", 0, 0, 0, put(0, 0, a[0], a[1], a[2], of(2, a[3])), "rec 1, rec 2, rec 3, rec 4", 4, 0, feed(4, 0)},
		{"same", 0, 1, 3, put(1, 0, a[1], a[2]), "", 3, 0, ""},
		{"same of less", 0, 1, 3, put(0, 0, a[0]), "", 1, 0, ""},
		{"same and next", 0, 1, 3, put(1, 0, a[1], a[2], of(2, a[3])), "rec 4", 4, 0, feed(4, 1)},
		{"in the table", 3, 3, 4, put(0, 0, of(7, a[0]), of(7, a[1])), "", 2, 0, ""},
		{"up to the table", 3, 3, 4, put(0, 0, of(7, a[0]), of(7, a[1]), a[2], a[3]), "", 4, 0, ""},
		{"not the table's", 3, 3, 4, put(0, 4, of(7, a[0]), of(7, a[1]), of(7, a[2]), a[3]), "", 2, 0, ""},
		{"another one", 0, 1, 3, put(1, 0, of(2, a[1])), "cut 1, rec 2", 2, 0, feed(2, 1)},
		{"another one at the end", 0, 1, 3, put(2, 0, of(2, a[2])), "cut 2, rec 3", 3, 0, feed(3, 1)},
		{"others", 0, 1, 3, put(1, 0, a[1], of(2, a[2]), of(2, a[3])), "cut 2, rec 3, rec 4", 4, 0, feed(4, 1)},
		{"another one of what is committed", 0, 2, 3, put(0, 3, a[0], of(2, a[1]), of(2, a[2])), "", 1, 0, ""},
		{"can't be added", 0, 1, 3, put(3, 4, rec(4, "a", 5)), "", 3, 3, ""},
		{"can't be added in place", 0, 1, 3, put(1, 9, of(2, rec(2, "a", 9))), "cut 1", 1, 0, ""},
		{"the second can't be added", 0, 1, 3, put(1, 9, of(2, a[1]), rec(3, "a", 3), a[3]), "cut 1, rec 2", 2, 2, feed(2, 2)},
		{"committed", 0, 1, 3, put(3, 3), "", 3, 3, ""},
		{"committed less", 0, 1, 3, put(3, 2), "", 3, 2, ""},
		{"committed as before", 0, 2, 3, put(3, 2), "", 3, 0, ""},
		{"committed more than is here", 0, 1, 3, put(2, 9), "", 2, 2, ""},
		{"committed with the next", 0, 1, 3, put(3, 1<<40, of(2, a[3])), "rec 4", 4, 4, feed(4, 4)},
	} {
		t.Run(c.name, func(t *testing.T) {
			x := in(t, 1, shelfOf(t, c.low, c.commit, c.last), row(2, 0, 1, 2))
			var l []string
			if c.reported > 0 {
				l = append(l, fmt.Sprint("ack 1>0 epoch=2 commit=", c.reported))
			}
			l = append(l, fmt.Sprintf("have 1>0 epoch=2 index=%d yes=1", c.index))
			if c.fed != "" {
				l = append(l, c.fed)
			}
			x.after(c.put, c.stored, strings.Join(l, "; "))
			if want := max(c.commit, c.reported); x.s.Shelf().Commit() != want {
				t.Error(x.s.Shelf().Commit(), want)
			}
		})
	}
}

// P18.3: a record for which there is no room is not had.
func TestPutNoRoom(t *testing.T) {
	x := in(t, 1, shelfOf(t, 0, 0, 22), row(2, 0, 1, 2))
	l := list(rec(23, "a", 23), of(2, rec(24, "a", 24)), of(2, rec(25, "a", 25)))
	x.after("put 0>1 epoch=2 index=25 prev=22 last=1 commit=9 "+l, "rec 23, rec 24", "ack 1>0 epoch=2 commit=9; have 1>0 epoch=2 index=24 yes=1; put 1>2 epoch=2 index=24 prev=24 last=2 commit=9")
	x.after("put 0>1 epoch=2 index=25 prev=24 last=2 commit=9 "+list(of(2, rec(25, "a", 25))), "fold 9", "have 1>0 epoch=2 index=24 yes=1")
	x.after("put 0>1 epoch=2 index=25 prev=24 last=2 commit=9 "+list(of(2, rec(25, "a", 25))), "rec 25", "have 1>0 epoch=2 index=25 yes=1; put 1>2 epoch=2 index=25 prev=25 last=2 commit=9")
}

// P18.3: the tail settles what it has, and says so; a fresh one without a word.
func TestPutTail(t *testing.T) {
	a := recs(4)
	x := in(t, 1, shelf.New(), row(2, 0, 1))
	x.after("put 0>1 epoch=2 index=3 "+list(a[:2]...), "rec 1, rec 2", "ack 1>0 epoch=2 commit=2; have 1>0 epoch=2 index=2 yes=1")
	x.after("put 0>1 epoch=2 index=3 "+list(a[:2]...), "", "have 1>0 epoch=2 index=2 yes=1")
	x = in(t, 1, shelfOf(t, 0, 0, 4), row(2, 0, 11))
	x.after("put 0>1 epoch=2 index=3 prev=1 last=1 commit=1 "+list(a[1]), "", "have 1>0 epoch=2 index=2 yes=1")
	if x.s.Whole() || x.s.Shelf().Commit() != 2 {
		t.Error(state(x.s))
	}
}

// P18.3: a fresh node that has all that the one back has is synced: it lets go what stands above, and says so.
func TestPutSync(t *testing.T) {
	ready := "tell 1>678 cmd=4.1.0.2"
	for _, c := range []struct {
		name         string
		commit, last int
		put          string
		stored, sent string
		synced       bool
	}{
		{"not all", 0, 3, "index=4 prev=3 last=1", "", "have 1>0 epoch=2 index=3 yes=1", false},
		{"all", 0, 3, "index=3 prev=3 last=1", "", ready + "; put 1>2 epoch=2 index=3 prev=3 last=1; have 1>0 epoch=2 index=3 yes=1", true},
		{"more than all", 0, 3, "index=2 prev=3 last=1", "", ready + "; put 1>2 epoch=2 index=3 prev=3 last=1; have 1>0 epoch=2 index=3 yes=1", true},
		{"all, and others above", 0, 3, "index=2 prev=2 last=1", "cut 2", ready + "; put 1>2 epoch=2 index=2 prev=2 last=1; have 1>0 epoch=2 index=2 yes=1", true},
		{"all, and committed above", 2, 3, "index=1 prev=1 last=1", "cut 2", ready + "; put 1>2 epoch=2 index=2 prev=2 last=1 commit=2; have 1>0 epoch=2 index=1 yes=1", true},
		{"all, and all committed above", 3, 3, "index=1 prev=1 last=1", "", ready + "; put 1>2 epoch=2 index=3 prev=3 last=1 commit=3; have 1>0 epoch=2 index=1 yes=1", true},
		{"all of nothing", 0, 3, "", "cut 0", ready + "; put 1>2 epoch=2; have 1>0 epoch=2 yes=1", true},
		{"all with the next", 1, 3, "index=4 prev=3 last=1 commit=3 " + list(rec(4, "a", 4)), "rec 4",
			ready + "; put 1>2 epoch=2 index=4 prev=4 last=1 commit=1; ack 1>0 epoch=2 commit=3; have 1>0 epoch=2 index=4 yes=1; put 1>2 epoch=2 index=4 prev=4 last=1 commit=3", true},
		{"all with another one", 0, 3, "index=2 prev=1 last=1 " + list(of(2, rec(2, "a", 2))), "cut 1, rec 2",
			ready + "; put 1>2 epoch=2 index=2 prev=2 last=2; have 1>0 epoch=2 index=2 yes=1; put 1>2 epoch=2 index=2 prev=2 last=2", true},
		{"does not fit", 1, 3, "prev=3 last=2", "", "have 1>0 epoch=2 index=1", false},
	} {
		t.Run(c.name, func(t *testing.T) {
			x := in(t, 1, shelfOf(t, 0, c.commit, c.last), row(2, 0, 11, 2))
			x.after(strings.TrimSpace("put 0>1 epoch=2 "+c.put), c.stored, c.sent)
			if x.s.Whole() != c.synced {
				t.Error(x.s.Whole())
			}
			// A whole one is not synced once more: nothing above is cut.
			y := in(t, 1, shelfOf(t, 0, c.commit, c.last), row(2, 0, 1, 2))
			f := y.hears(strings.TrimSpace("put 0>1 epoch=2 " + c.put))
			if strings.Contains(says(f), "tell") || f.Cut >= 0 && len(f.Recs) == 0 {
				t.Error(told(f))
			}
		})
	}
	x := in(t, 1, shelf.New(), row(2, 0, 11))
	x.after("put 0>1 epoch=2 index=1 "+list(rec(1, "a", 1)), "rec 1", ready+"; ack 1>0 epoch=2 commit=1; have 1>0 epoch=2 index=1 yes=1")
}

// tableOf is the table of so many records, as a base tells it.
func tableOf(t *testing.T, n int) api.Table { return shelfOf(t, n, n, n).Table() }

// P18.3: a table is taken in place of all, unless it is here, or more is committed.
func TestBase(t *testing.T) {
	for _, c := range []struct {
		name              string
		low, commit, last int
		index, epoch      int
		stored, sent      string
	}{
		{"empty", 0, 0, 0, 0, 0, "", "have 1>0 epoch=2"},
		{"onto nothing", 0, 0, 0, 5, 1, "base 5", "have 1>0 epoch=2 index=5 yes=1"},
		{"above all", 0, 1, 3, 5, 1, "base 5", "have 1>0 epoch=2 index=5 yes=1"},
		{"as is committed", 0, 2, 3, 2, 1, "", "have 1>0 epoch=2 index=2"},
		{"less than is committed", 0, 2, 3, 1, 1, "", "have 1>0 epoch=2 index=2"},
		{"as is here", 0, 1, 3, 2, 1, "", "ack 1>0 epoch=2 commit=2; have 1>0 epoch=2 index=2 yes=1"},
		{"all that is here", 0, 1, 3, 3, 1, "", "ack 1>0 epoch=2 commit=3; have 1>0 epoch=2 index=3 yes=1"},
		{"of another epoch", 0, 1, 3, 3, 2, "base 3", "have 1>0 epoch=2 index=3 yes=1"},
		{"as the table", 3, 3, 5, 3, 1, "", "have 1>0 epoch=2 index=3"},
	} {
		t.Run(c.name, func(t *testing.T) {
			x := in(t, 1, shelfOf(t, c.low, c.commit, c.last), row(2, 0, 1, 2))
			m := api.Msg{Kind: api.MBase, From: 0, To: 1, Epoch: 2, Table: tableOf(t, c.index)}
			m.Table.Epoch = c.epoch
			f := x.take(m)
			x.want(f, c.stored, c.sent)
			if f.Base && (fmt.Sprint(f.Table) != fmt.Sprint(m.Table) || x.s.Shelf().Commit() != c.index) {
				t.Error(told(f))
			}
			if !f.Base && f.Table.Cells != nil {
				t.Error(told(f))
			}
		})
	}
	// A fresh one takes it, too, and is not whole by that.
	x := in(t, 1, shelf.New(), row(2, 0, 11))
	m := api.Msg{Kind: api.MBase, From: 0, To: 1, Epoch: 2, Table: tableOf(t, 5)}
	x.want(x.take(m), "base 5", "have 1>0 epoch=2 index=5 yes=1")
	x.want(x.take(m), "", "have 1>0 epoch=2 index=5")
	if x.s.Whole() {
		t.Error("whole")
	}
}

// P18.3: up to where the one next has all, and what it is fed then.
func TestHave(t *testing.T) {
	put := func(prev, last int, l ...api.Record) string {
		return text(api.Msg{Kind: api.MPut, From: 1, To: 2, Epoch: 2, Index: 9, Prev: prev, Last: last, Recs: l, Commit: 4})
	}
	a := recs(9)
	base := text(api.Msg{Kind: api.MBase, From: 1, To: 2, Epoch: 2, Table: tableOf(t, 2)})
	for _, c := range []struct {
		name  string
		heard string // one behind the other
		want  []string
	}{
		{"all", "9y", []string{""}},
		{"all, and not", "9n", []string{put(9, 1)}},
		{"some", "6y", []string{put(6, 1, a[6:9]...)}},
		{"more than go at once", "2y", []string{put(2, 1, a[2:6]...)}},
		{"below the table", "1y", []string{base}},
		{"nothing", "0n", []string{base}},
		{"rises", "3y 5y 9y", []string{put(3, 1, a[3:7]...), put(5, 1, a[5:9]...), ""}},
		{"the same", "5y 5y", []string{put(5, 1, a[5:9]...), ""}},
		{"the same, and not", "5y 5n", []string{put(5, 1, a[5:9]...), ""}},
		{"twice not", "5n 5n", []string{put(5, 1, a[5:9]...), ""}},
		{"late", "7y 5y", []string{put(7, 1, a[7:9]...), ""}},
		{"falls", "7y 5n 5y 6y", []string{put(7, 1, a[7:9]...), put(5, 1, a[5:9]...), "", put(6, 1, a[6:9]...)}},
		{"falls, and all", "5y 9n 9y", []string{put(5, 1, a[5:9]...), put(9, 1), ""}},
	} {
		t.Run(c.name, func(t *testing.T) {
			x := in(t, 1, shelfOf(t, 2, 4, 9), row(2, 0, 1, 2))
			known := 0
			for i, h := range strings.Fields(c.heard) {
				m := api.Msg{Kind: api.MHave, From: 2, To: 1, Epoch: 2, Index: int(h[0] - '0'), Yes: h[1] == 'y'}
				x.want(x.take(m), "", c.want[i])
				if !m.Yes || m.Index > known {
					known = m.Index
				}
			}
			// That is what it is fed from then on.
			if f := x.tick(); known >= 2 && f.Send[0].Prev != known || known < 2 && f.Send[0].Kind != api.MBase {
				t.Error(says(f))
			}
			x.fails(api.Msg{Kind: api.MHave, From: 2, To: 1, Epoch: 2, Index: 10, Yes: true}, api.ErrStale)
			x.fails(api.Msg{Kind: api.MHave, From: 2, To: 1, Epoch: 2, Index: 1 << 40}, api.ErrStale)
		})
	}
	// One that is not whole feeds nobody.
	x := in(t, 1, shelfOf(t, 2, 4, 9), row(2, 0, 11, 2))
	x.after("have 2>1 epoch=2 index=3 yes=1", "", "")
	x.after("have 2>1 epoch=2 index=2", "", "")
}

// P18.3: what the one next says is committed.
func TestAck(t *testing.T) {
	x := in(t, 1, shelfOf(t, 0, 1, 3), row(2, 0, 1, 2))
	x.after("ack 2>1 epoch=2", "", "")
	x.after("ack 2>1 epoch=2 commit=1", "", "")
	x.after("ack 2>1 epoch=2 commit=2", "", "ack 1>0 epoch=2 commit=2")
	x.after("ack 2>1 epoch=2 commit=1099511627776", "", "ack 1>0 epoch=2 commit=3")
	x.after("ack 2>1 epoch=2 commit=3", "", "")
	x = in(t, 1, shelfOf(t, 0, 1, 3), row(2, 0, 11, 2))
	x.after("ack 2>1 epoch=2 commit=2", "", "")
	if x.s.Shelf().Commit() != 1 {
		t.Error(x.s.Shelf().Commit())
	}
}

// P18.3: the tail says which version is committed.
func TestAsk(t *testing.T) {
	x := in(t, 1, shelfOf(t, 1, 1, 3), row(2, 0, 5, 1))
	x.after("ask 0>1 epoch=2 nonce=7 key=61", "", "ver 1>0 epoch=2 nonce=7 ver=3")
	x.after("ask 5>1 epoch=2 nonce=1099511627776 key=62", "", "ver 1>5 epoch=2 nonce=1099511627776")
	// One that was told as whole, and never was fed, has not committed all.
	x = in(t, 1, shelfOf(t, 1, 1, 3), row(2, 0, 5, 11))
	x.adopts(row(2, 0, 5, 1))
	x.after("ask 0>1 epoch=2 key=61", "", "ver 1>0 epoch=2 ver=1")
}

// P18.3: a read is told what the tail committed, if that is here.
func TestVer(t *testing.T) {
	for _, c := range []struct {
		line, sent string
		left       int
	}{
		{"nonce=2 ver=1", "sure 1>678 epoch=2 nonce=2", 2},
		{"nonce=2 ver=3", "sure 1>678 epoch=2 nonce=2", 2},
		{"nonce=2", "sure 1>678 epoch=2 nonce=2", 2},
		{"nonce=2 ver=4", "done 1>12 err=151 req=3.1 chain=2 members=0.0,1.0,2.0", 1},
		{"nonce=1 ver=3", "", 2},
		{"nonce=3 ver=3", "", 2},
		{"ver=3", "", 2},
	} {
		x := between(t)
		x.after("ver 2>1 epoch=2 "+c.line, "", c.sent)
		if _, r := x.s.Waiting(); r != c.left {
			t.Error(c, r)
		}
	}
	// What is below the table is not here any more.
	x := in(t, 1, shelfOf(t, 2, 2, 3), row(2, 0, 1, 2))
	x.read(3, 1, api.Strong, 0)
	x.after("ver 2>1 epoch=2 nonce=1 ver=1", "", "done 1>12 err=151 req=3.1 chain=2 members=0.0,1.0,2.0")
	x.read(3, 1, api.Strong, 0)
	x.after("ver 2>1 epoch=2 nonce=2 ver=2", "", "sure 1>678 epoch=2 nonce=2")
	x.after("ver 2>1 epoch=2 nonce=2 ver=3", "", "")
	x.after("chain 8>1 epoch=2 nonce=2 chain=2 members=0.0,1.0,2.0", "", "done 1>12 ver=2 req=3.1 value=7632 chain=2 members=0.0,1.0,2.0 saw a 2")
}

// P18.2, P18.3: a tail that was told as whole, and has not committed all, asks itself: that is no message, and nobody answers.
func TestAsksItself(t *testing.T) {
	x := in(t, 1, shelfOf(t, 0, 1, 3), row(2, 0, 11))
	x.adopts(row(2, 0, 1))
	f := x.read(3, 1, api.Strong, 0)
	if len(f.Send) != 1 || f.Send[0].Kind != api.MAsk || f.Send[0].To != 1 || proto.Check(f.Send[0]) == api.OK {
		t.Error(told(f))
	}
}

// The chapter's example, message by message.
func TestExample(t *testing.T) {
	c := row(1, 0, 1)
	a, b := pairOf(t, 0, shelf.New(), 0), pairOf(t, 1, shelf.New(), 0)
	a.want(a.adopts(c), "era 1", "put 0>1 epoch=1")
	b.want(b.adopts(c), "era 1", "")
	b.after("put 0>1 epoch=1", "", "have 1>0 epoch=1 yes=1")
	a.after("have 1>0 epoch=1 yes=1", "", "")
	one := "put 0>1 epoch=1 index=1 recs=1.1.61.1.78.0.1"
	a.after("write 9>0 req=0.1 key=61 value=78", "rec 1", one)
	b.after(one, "rec 1", "ack 1>0 epoch=1 commit=1; have 1>0 epoch=1 index=1 yes=1")
	a.after("ack 1>0 epoch=1 commit=1", "", "done 0>9 ver=1 req=0.1 chain=1 members=0.0,1.0 saw a 1")
	a.after("have 1>0 epoch=1 index=1 yes=1", "", "")
	b.after("read 10>1 req=1.1 key=61", "", "sure 1>678 epoch=1 nonce=1")
	b.after("chain 6>1 epoch=1 nonce=1 chain=1 members=0.0,1.0", "", "done 1>10 ver=1 req=1.1 value=78 chain=1 members=0.0,1.0 saw a 1")
}
