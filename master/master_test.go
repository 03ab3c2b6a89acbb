package master_test

import (
	"fmt"
	"math"
	"strings"
	"testing"

	"towline/api"
	"towline/disk"
	"towline/master"
	"towline/tape"
)

// The chapter's example: what becomes of three masters.
func TestExample(t *testing.T) {
	m := []*pair{fresh(t, 0), fresh(t, 1), fresh(t, 2)}
	var out []api.Msg
	var run func(l []api.Msg)
	run = func(l []api.Msg) {
		for _, x := range l {
			if x.To < 6 {
				out = append(out, x)
				continue
			}
			more, e := m[x.To-6].take(x)
			if e != api.OK {
				t.Fatal(x, e)
			}
			run(more)
		}
	}
	for range 5 {
		l, _ := m[0].tick(0)
		run(l)
	}
	if len(out) != 6 || m[0].m.View().Role != api.Leads || m[2].m.View().Lead != 0 {
		t.Fatal(out)
	}
	for i, x := range out {
		if x.Kind != api.MChain || x.From != 6 || x.To != i || x.Epoch != 0 || x.Nonce != 0 || x.Chain.Epoch != 1 || len(x.Chain.Members) != 2 {
			t.Error(x)
		}
	}
	out = nil
	l, e := m[0].tells(api.Command{Kind: api.CDead, Node: 0, Epoch: 1})
	if e != api.OK {
		t.Fatal(e)
	}
	run(l)
	if len(out) != 6 || out[5].Chain.Epoch != 2 || out[5].Chain.Members[0].Node != 1 {
		t.Error(out)
	}
}

// taped is a disk whose tape has notes.
func taped(t *testing.T, notes ...[]byte) *disk.Disk {
	t.Helper()
	d := newDisk(t, 1<<18)
	x, e := tape.Open(d)
	if e != api.OK {
		t.Fatal(e)
	}
	for _, b := range notes {
		if e := x.Put(b); e != api.OK {
			t.Fatal(e)
		}
	}
	x.Sync()
	return d
}

// many is notes of a term, and of so many rows of it.
func many(rows int) [][]byte {
	l := [][]byte{hardNote(1, 0)}
	for i := range rows {
		l = append(l, rowNote(i+1, 1, "x"))
	}
	return l
}

// P20.1: notes, in order, are the term, the vote and the rows; or they are none.
func TestNotes(t *testing.T) {
	long := strings.Repeat("d", 64)
	for name, c := range map[string]struct {
		notes [][]byte
		e     api.Errno
		told  string
	}{
		"none":             {nil, api.OK, "{0 -1} []"},
		"a term":           {[][]byte{hardNote(3, -1)}, api.OK, "{3 -1} []"},
		"a vote":           {[][]byte{hardNote(3, 2), hardNote(5, 1)}, api.OK, "{5 1} []"},
		"greatest":         {[][]byte{hardNote(top, 0)}, api.OK, fmt.Sprintf("{%d 0} []", top)},
		"rows":             {[][]byte{hardNote(2, 0), rowNote(1, 1, ""), rowNote(2, 2, "ab")}, api.OK, "{2 0} [{1 []} {2 [97 98]}]"},
		"rows go":          {[][]byte{hardNote(2, 0), rowNote(1, 1, ""), rowNote(2, 1, "a"), rowNote(3, 1, "b"), rowNote(2, 2, "c")}, api.OK, "{2 0} [{1 []} {2 [99]}]"},
		"all rows go":      {[][]byte{hardNote(2, 0), rowNote(1, 1, ""), rowNote(2, 1, "a"), rowNote(1, 2, "")}, api.OK, "{2 0} [{2 []}]"},
		"the same":         {[][]byte{hardNote(1, 0), rowNote(1, 1, "a"), rowNote(1, 1, "b")}, api.OK, "{1 0} [{1 [98]}]"},
		"term behind rows": {[][]byte{rowNote(1, 4, ""), hardNote(4, 0)}, api.OK, "{4 0} [{4 []}]"},
		"long data":        {[][]byte{hardNote(1, 0), rowNote(1, 1, long)}, api.OK, "{1 0} [{1 " + fmt.Sprint([]byte(long)) + "}]"},
		"too long":         {[][]byte{hardNote(1, 0), rowNote(1, 1, long+"d")}, api.ErrStore, ""},
		"empty":            {[][]byte{{}}, api.ErrStore, ""},
		"kind 0":           {[][]byte{signed(0, 1, 0)}, api.ErrStore, ""},
		"kind 3":           {[][]byte{signed(3, 1, 0)}, api.ErrStore, ""},
		"kind -1":          {[][]byte{signed(-1, 1, 0)}, api.ErrStore, ""},
		"no vote":          {[][]byte{signed(1, 1)}, api.ErrStore, ""},
		"more":             {[][]byte{append(hardNote(1, 0), 0)}, api.ErrStore, ""},
		"no data":          {[][]byte{hardNote(1, 0), signed(2, 1, 1)}, api.ErrStore, ""},
		"short data":       {[][]byte{hardNote(1, 0), append(signed(2, 1, 1), 2, 'a')}, api.ErrStore, ""},
		"more data":        {[][]byte{hardNote(1, 0), append(rowNote(1, 1, "a"), 'b')}, api.ErrStore, ""},
		"other form":       {[][]byte{{2, 0x82, 0, 1}}, api.ErrStore, ""},
		"index 0":          {[][]byte{hardNote(1, 0), rowNote(0, 1, "a")}, api.ErrStore, ""},
		"index -1":         {[][]byte{hardNote(1, 0), rowNote(-1, 1, "a")}, api.ErrStore, ""},
		"a gap":            {[][]byte{hardNote(1, 0), rowNote(2, 1, "a")}, api.ErrStore, ""},
		"far":              {[][]byte{hardNote(1, 0), rowNote(math.MaxInt, 1, "a")}, api.ErrStore, ""},
		"bad, then right":  {[][]byte{signed(9), hardNote(1, 0)}, api.ErrStore, ""},
		"term below":       {[][]byte{hardNote(-1, 0)}, api.ErrTerm, ""},
		"term above":       {[][]byte{hardNote(top+1, 0)}, api.ErrTerm, ""},
		"vote below":       {[][]byte{hardNote(1, -2)}, api.ErrTerm, ""},
		"vote above":       {[][]byte{hardNote(1, 3)}, api.ErrTerm, ""},
		"row above term":   {[][]byte{hardNote(1, 0), rowNote(1, 2, "")}, api.ErrTerm, ""},
		"row of term 0":    {[][]byte{hardNote(1, 0), rowNote(1, 0, "")}, api.ErrTerm, ""},
		"terms fall":       {[][]byte{hardNote(3, 0), rowNote(1, 3, ""), rowNote(2, 2, "")}, api.ErrTerm, ""},
		"no term":          {[][]byte{rowNote(1, 1, "")}, api.ErrTerm, ""},
		"201 rows":         {many(201), api.ErrTerm, ""},
	} {
		m, e := master.Open(1, taped(t, c.notes...), two(), 0)
		if e != c.e || (m != nil) != (e == api.OK) {
			t.Errorf("%s: %d, not %d", name, e, c.e)
			continue
		}
		if m == nil {
			continue
		}
		v := m.View()
		if got := fmt.Sprint(v.Hard, " ", m.Rows()); got != c.told {
			t.Errorf("%s: %s, not %s", name, got, c.told)
		}
		if v.ID != 1 || v.Role != api.Follows || v.Lead != -1 || v.Commit != 0 || m.Chain().Epoch != 1 {
			t.Errorf("%s: %v %v", name, v, m.Chain())
		}
	}
	if m, e := master.Open(0, taped(t, many(200)...), two(), 0); e != api.OK || len(m.Rows()) != 200 {
		t.Error(e)
	}
}

// P20.1: why there is no master, the first error first.
func TestOpen(t *testing.T) {
	down := newDisk(t, 100)
	down.Crash()
	wrong := []struct {
		what string
		e    api.Errno
		make func(id *int, d **disk.Disk, nodes *[]api.Member, timeout *int)
	}{
		{"no nodes", api.ErrChain, func(_ *int, _ **disk.Disk, nodes *[]api.Member, _ *int) { *nodes = nil }},
		{"fresh", api.ErrChain, func(_ *int, _ **disk.Disk, nodes *[]api.Member, _ *int) { *nodes = []api.Member{{Fresh: true}} }},
		{"twice", api.ErrChain, func(_ *int, _ **disk.Disk, nodes *[]api.Member, _ *int) { *nodes = []api.Member{{}, {}} }},
		{"no disk", api.ErrNil, func(_ *int, d **disk.Disk, _ *[]api.Member, _ *int) { *d = nil }},
		{"by hand", api.ErrNil, func(_ *int, d **disk.Disk, _ *[]api.Member, _ *int) { *d = &disk.Disk{} }},
		{"down", api.ErrDown, func(_ *int, d **disk.Disk, _ *[]api.Member, _ *int) { *d = down }},
		{"no room", api.ErrFull, func(_ *int, d **disk.Disk, _ *[]api.Member, _ *int) { *d = newDisk(t, 2) }},
		{"no note", api.ErrStore, func(_ *int, d **disk.Disk, _ *[]api.Member, _ *int) { *d = taped(t, []byte("?")) }},
		{"no term", api.ErrTerm, func(_ *int, d **disk.Disk, _ *[]api.Member, _ *int) { *d = taped(t, hardNote(-1, 0)) }},
		{"id -1", api.ErrTerm, func(id *int, _ **disk.Disk, _ *[]api.Member, _ *int) { *id = -1 }},
		{"id 3", api.ErrTerm, func(id *int, _ **disk.Disk, _ *[]api.Member, _ *int) { *id = 3 }},
		{"timeout -1", api.ErrTerm, func(_ *int, _ **disk.Disk, _ *[]api.Member, timeout *int) { *timeout = -1 }},
		{"timeout 8", api.ErrTerm, func(_ *int, _ **disk.Disk, _ *[]api.Member, timeout *int) { *timeout = 8 }},
	}
	for i, a := range wrong {
		for j, b := range wrong {
			id, d, nodes, timeout := 2, newDisk(t, 1000), two(), 7
			// What is named first is done last: what concerns the same argument counts so.
			wrong[max(i, j)].make(&id, &d, &nodes, &timeout)
			wrong[min(i, j)].make(&id, &d, &nodes, &timeout)
			if m, e := master.Open(id, d, nodes, timeout); m != nil || e != wrong[min(i, j)].e {
				t.Errorf("%s, %s: %v %d", a.what, b.what, m, e)
			}
		}
	}
	for id := range 3 {
		for timeout := range 8 {
			x := open(t, id, newDisk(t, 1000), two(), timeout)
			ticks := 0
			for ; x.m.View().Role == api.Follows; ticks++ {
				x.tick(0)
			}
			if ticks != 4+timeout || x.m.View().ID != id {
				t.Error(id, timeout, ticks)
			}
		}
	}
}

// P20.1: the first chain is of the nodes, which are neither kept nor changed.
func TestNodes(t *testing.T) {
	nodes := []api.Member{{Node: 4, Site: 2}, {Node: 2, Site: 1}, {Node: 9, Site: 9}}
	m, e := master.Open(0, newDisk(t, 1000), nodes[:2], 0)
	if e != api.OK || fmt.Sprint(nodes) != "[{4 2 false} {2 1 false} {9 9 false}]" {
		t.Fatal(e, nodes)
	}
	spoil(nodes, api.Member{Node: -9})
	if got := fmt.Sprint(m.Chain()); got != "{1 [{2 1 false} {4 2 false}]}" {
		t.Error(got)
	}
}

// onTape is all notes on a disk.
func onTape(t *testing.T, d *disk.Disk) string {
	t.Helper()
	x, e := tape.Open(d.Clone())
	if e != api.OK || len(x.Base()) != 0 {
		t.Fatal(e)
	}
	var l [][]byte
	for i := range x.Len() {
		b, _ := x.At(i)
		l = append(l, b)
	}
	return fmt.Sprintf("%x", l)
}

// P20.2, "to do": what is put on the tape, and what is sent, in which order.
func TestDo(t *testing.T) {
	x := fresh(t, 0)
	notes := [][]byte{}
	step := func(what string, l []api.Msg, e api.Errno, sent string, more ...[]byte) {
		t.Helper()
		notes = append(notes, more...)
		if e != api.OK || kinds(l) != sent || onTape(t, x.d) != fmt.Sprintf("%x", notes) {
			t.Fatalf("%s: %d, %s, %s", what, e, kinds(l), onTape(t, x.d))
		}
	}
	for range 3 {
		l, e := x.tick(0)
		step("waits", l, e, "[]")
	}
	l, e := x.tick(3)
	step("stands", l, e, "[1>7 1>8]", hardNote(1, 0))
	l, e = x.take(api.Msg{Kind: api.MGrant, From: 8, To: 6, Term: 1, Yes: true})
	step("leads", l, e, "[3>7 3>8]", rowNote(1, 1, ""))
	l, e = x.tick(0)
	step("tick", l, e, "[3>7 3>8 7>0 7>1 7>2 7>3 7>4 7>5]")
	step("commits", x.fed(2, 1, 0), api.OK, "[]")
	dead := api.Command{Kind: api.CDead, Node: 0, Epoch: 1}
	l, e = x.tells(dead)
	step("proposes", l, e, "[3>7 3>8]", rowNote(2, 1, order(dead)))
	l, e = x.asks(4, 1, 6)
	step("asks", l, e, "[3>7 3>8]")
	l = x.fed(1, 2, 1)
	step("tells, then answers", l, api.OK, "[7>0 7>1 7>2 7>3 7>4 7>5 7>4]")
	if l[6].Epoch != 1 || l[6].Nonce != 6 || l[6].Chain.Epoch != 2 || l[0].Chain.Epoch != 2 || l[0].From != 6 {
		t.Error(l[6])
	}
	l, e = x.take(api.Msg{Kind: api.MFeed, From: 7, To: 6, Term: 4, Prev: 1, Last: 1, Rows: []api.Row{{Term: 2}, {Term: 4, Data: []byte("z")}}})
	// What is committed stays: a leader that says otherwise is none.
	step("another term", l, e, "[4>7]", hardNote(4, -1))
	l, e = x.take(api.Msg{Kind: api.MFeed, From: 7, To: 6, Term: 5, Prev: 2, Last: 1, Rows: []api.Row{{Term: 2}, {Term: 4, Data: []byte("z")}}})
	step("rows", l, e, "[4>7]", hardNote(5, -1), rowNote(3, 2, ""), rowNote(4, 4, "z"))
	l, e = x.take(api.Msg{Kind: api.MFeed, From: 7, To: 6, Term: 5, Prev: 2, Last: 1, Rows: []api.Row{{Term: 2}, {Term: 5}, {Term: 5, Data: []byte("y")}}, Commit: 5})
	step("other rows", l, e, "[4>7]", rowNote(4, 5, ""), rowNote(5, 5, "y"))
	l, e = x.take(api.Msg{Kind: api.MVote, From: 8, To: 6, Term: 9, Index: 5, Last: 5})
	step("votes", l, e, "[2>8]", hardNote(9, 2))
	if got := fmt.Sprint(x.m.View().Commit, x.m.Rows()); got != fmt.Sprint(5, []api.Row{{Term: 1}, {Term: 1, Data: []byte(order(dead))}, {Term: 2}, {Term: 5}, {Term: 5, Data: []byte("y")}}) {
		t.Error(got)
	}
}

// P20.2: a follower that commits changes its chain, and tells nobody.
func TestFollows(t *testing.T) {
	x := fresh(t, 1)
	dead := order(api.Command{Kind: api.CDead, Node: 0, Epoch: 1})
	l, e := x.take(api.Msg{Kind: api.MFeed, From: 6, To: 7, Term: 1, Rows: []api.Row{{Term: 1}, {Term: 1, Data: []byte(dead)}, {Term: 1, Data: []byte(dead)}, {Term: 1, Data: []byte("?")}}, Commit: 4})
	if e != api.OK || kinds(l) != "[4>6]" || x.m.Chain().Epoch != 2 || x.m.View().Commit != 4 {
		t.Error(kinds(l), e, x.m.Chain())
	}
	if l, e := x.tick(0); e != api.OK || len(l) != 0 {
		t.Error(l, e)
	}
}

// P20.2: a command that comes to nothing is told to nobody; that a node is ready is told, though no epoch begins.
func TestTold(t *testing.T) {
	x := leader(t, true)
	join := api.Command{Kind: api.CJoin, Node: 5, Site: 1, Epoch: 1}
	dead := api.Command{Kind: api.CDead, Node: 0, Epoch: 1}
	x.tells(join)
	x.tells(dead)
	if l := x.fed(1, 2, 0); kinds(l) != "[3>7 7>0 7>1 7>2 7>3 7>4 7>5]" {
		t.Error(kinds(l))
	}
	if l := x.fed(1, 3, 0); kinds(l) != "[]" || x.m.View().Commit != 3 || x.m.Chain().Epoch != 2 {
		t.Error(kinds(l), x.m.Chain())
	}
	if l, e := x.tells(api.Command{Kind: api.CReady, Node: 5, Epoch: 2}); e != api.OK || kinds(l) != "[3>7 3>8]" {
		t.Error(kinds(l), e)
	}
	l := x.fed(2, 4, 0)
	if kinds(l) != "[7>0 7>1 7>2 7>3 7>4 7>5]" || l[0].Chain.Epoch != 2 || l[0].Chain.Members[2].Fresh {
		t.Error(kinds(l))
	}
}

// P20.2: a wrong timeout is refused, and nothing is told.
func TestTick(t *testing.T) {
	for _, x := range []*pair{fresh(t, 0), leader(t, true)} {
		for _, timeout := range []int{math.MinInt, -1, 8, math.MaxInt} {
			if l, e := x.tick(timeout); len(l) != 0 || e != api.ErrArg {
				t.Error(timeout, l, e)
			}
		}
	}
}

// P20.3: what is none of its messages.
func TestTakeOthers(t *testing.T) {
	x := leader(t, true)
	for name, c := range map[string]struct {
		m api.Msg
		e api.Errno
	}{
		"to another":     {api.Msg{Kind: api.MSure, From: 0, To: 7}, api.ErrMsg},
		"to a node":      {api.Msg{Kind: api.MTell, From: 6, To: 0, Cmd: api.Command{Kind: api.CDead, Epoch: 1}}, api.ErrMsg},
		"a chain":        {api.Msg{Kind: api.MChain, From: 7, To: 6}, api.ErrMsg},
		"of the chain":   {api.Msg{Kind: api.MAck, From: 0, To: 6, Epoch: 1}, api.ErrMsg},
		"of a client":    {api.Msg{Kind: api.MDone, From: 0, To: 6, Req: api.Req{Seq: 1}}, api.ErrMsg},
		"vote of a node": {api.Msg{Kind: api.MVote, From: 5, To: 6, Term: 9}, api.ErrTerm},
		"of a client, 9": {api.Msg{Kind: api.MGrant, From: 9, To: 6, Term: 9, Yes: true}, api.ErrTerm},
		"term 0":         {api.Msg{Kind: api.MGrant, From: 7, To: 6, Yes: true}, api.ErrTerm},
		"many rows":      {api.Msg{Kind: api.MVote, From: 7, To: 6, Term: 9, Index: 201, Last: 1}, api.ErrTerm},
	} {
		if l, e := x.take(c.m); len(l) != 0 || e != c.e {
			t.Errorf("%s: %v %d", name, l, e)
		}
	}
	right := bytesOf(t, api.Msg{Kind: api.MSure, From: 0, To: 6, Epoch: 1, Nonce: 1})
	for _, b := range [][]byte{nil, {}, {0}, make([]byte, 9000), right[1:], append(right, 0)} {
		if l, e := x.m.Take(b); l != nil || e != api.ErrMsg {
			t.Error(l, e)
		}
		x.looks("no message")
	}
}

// P20.3: which commands are proposed, and which error comes first.
func TestTell(t *testing.T) {
	x := leader(t, true)
	refuse := func(x *pair, c api.Command, want api.Errno) {
		t.Helper()
		if l, e := x.tells(c); len(l) != 0 || e != want {
			t.Error(c, kinds(l), e)
		}
	}
	refuse(x, api.Command{Kind: api.CDead, Node: 0, Epoch: 2}, api.ErrEpoch)
	refuse(x, api.Command{Kind: api.CDead, Node: 3, Epoch: 1}, api.ErrNode)
	refuse(x, api.Command{Kind: api.CReady, Node: 0, Epoch: 1}, api.ErrNode)
	refuse(x, api.Command{Kind: api.CJoin, Node: 0, Site: 1, Epoch: 1}, api.ErrThere)
	refuse(x, api.Command{Kind: api.CSite, Site: 2, Epoch: 1}, api.ErrNode)
	dead, again := api.Command{Kind: api.CDead, Node: 0, Epoch: 1}, api.Command{Kind: api.CAgain, Node: 1, Epoch: 1}
	if l, e := x.tells(dead); e != api.OK || kinds(l) != "[3>7 3>8]" {
		t.Fatal(kinds(l), e)
	}
	if l, e := x.tells(again); e != api.OK || len(l) != 2 {
		t.Fatal(kinds(l), e)
	}
	refuse(x, dead, api.ErrThere)
	refuse(x, again, api.ErrThere)
	if len(x.m.Rows()) != 3 {
		t.Error(x.m.Rows())
	}
	x.fed(1, 3, 0)
	refuse(x, dead, api.ErrEpoch)
	refuse(x, api.Command{Kind: api.CDead, Node: 1, Epoch: 2}, api.ErrLast)
	// The same bytes stand at the ledger's index, and ahead of it: they count no more.
	if l, e := x.tells(api.Command{Kind: api.CAgain, Node: 1, Epoch: 2}); e != api.OK || len(l) != 2 {
		t.Error(kinds(l), e)
	}
}

// P20.3: who does not lead takes no command; the ledger's error, and that it is there, come first.
func TestTellFollower(t *testing.T) {
	x := fresh(t, 2)
	dead := api.Command{Kind: api.CDead, Node: 0, Epoch: 1}
	x.take(api.Msg{Kind: api.MFeed, From: 6, To: 8, Term: 1, Rows: []api.Row{{Term: 1}, {Term: 1, Data: []byte(order(dead))}}, Commit: 1})
	for c, want := range map[api.Command]api.Errno{
		dead:                                 api.ErrThere,
		{Kind: api.CDead, Node: 1, Epoch: 1}: api.ErrWait,
		{Kind: api.CDead, Node: 1, Epoch: 2}: api.ErrEpoch,
		{Kind: api.CDead, Node: 2, Epoch: 1}: api.ErrNode,
	} {
		if l, e := x.tells(c); len(l) != 0 || e != want {
			t.Error(c, l, e)
		}
	}
	// A row that just begins with the bytes is another one.
	y := fresh(t, 2)
	y.take(api.Msg{Kind: api.MFeed, From: 6, To: 8, Term: 1, Rows: []api.Row{{Term: 1, Data: []byte(order(dead) + "x")}, {Term: 1, Data: []byte(order(dead)[:3])}}})
	if _, e := y.tells(dead); e != api.ErrWait {
		t.Error(e)
	}
}

// P20.3: a command that came to nothing, and would not now, counts no more.
func TestTellOnceMore(t *testing.T) {
	x := open(t, 2, newDisk(t, 1000), []api.Member{{Node: 0}}, 0)
	dead := api.Command{Kind: api.CDead, Node: 0, Epoch: 2}
	var rows []api.Row
	for _, c := range []api.Command{{Kind: api.CJoin, Node: 5, Epoch: 1}, dead, {Kind: api.CReady, Node: 5, Epoch: 2}} {
		rows = append(rows, api.Row{Term: 1, Data: []byte(order(c))})
	}
	feed := api.Msg{Kind: api.MFeed, From: 6, To: 8, Term: 1, Rows: rows, Commit: 2}
	for commit, want := range map[int]api.Errno{2: api.ErrLast, 3: api.ErrWait} {
		y := open(t, 2, x.d.Clone(), []api.Member{{Node: 0}}, 0)
		feed.Commit = commit
		y.take(feed)
		if _, e := y.tells(dead); e != want || y.m.Chain().Epoch != 2 {
			t.Error(commit, e, y.m.Chain())
		}
	}
}

// P20.3: with 200 rows there is no room for another one.
func TestRows(t *testing.T) {
	x := open(t, 0, taped(t, many(199)...), two(), 0)
	x.stands()
	dead := api.Command{Kind: api.CDead, Node: 0, Epoch: 1}
	if l, e := x.tells(dead); len(l) != 0 || e != api.ErrFull || len(x.m.Rows()) != 200 {
		t.Error(l, e)
	}
}

// silent fails, unless a master says nothing, whatever it is asked.
func silent(t *testing.T, m *master.Master) {
	t.Helper()
	if c := m.Chain(); m.View() != (api.View{}) || c.Epoch != 0 || c.Members != nil || m.Rows() != nil {
		t.Error("told")
	}
	for what, ask := range map[string]func() ([]api.Frame, api.Errno){
		"take":     func() ([]api.Frame, api.Errno) { return m.Take(bytesOf(t, api.Msg{Kind: api.MSure, From: 0, To: 6})) },
		"bad take": func() ([]api.Frame, api.Errno) { return m.Take(nil) },
		"tick":     func() ([]api.Frame, api.Errno) { return m.Tick(0) },
		"bad tick": func() ([]api.Frame, api.Errno) { return m.Tick(-1) },
	} {
		if l, e := ask(); l != nil || e != api.ErrNil {
			t.Error(what, l, e)
		}
	}
}

// The rule Objects.
func TestObjects(t *testing.T) {
	silent(t, nil)
	silent(t, &master.Master{})
}

// Two masters know nothing of one another.
func TestApart(t *testing.T) {
	x, y := leader(t, true), fresh(t, 0)
	x.tells(api.Command{Kind: api.CDead, Node: 0, Epoch: 1})
	x.fed(1, 2, 0)
	if y.m.View().Hard.Term != 0 || y.m.Chain().Epoch != 1 || len(y.m.Rows()) != 0 {
		t.Error(y.m.View())
	}
}
