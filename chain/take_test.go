package chain_test

import (
	"fmt"
	"slices"
	"testing"

	"towline/api"
	"towline/pass"
	"towline/shelf"
)

// write is a client's write.
func (x *pair) write(client, seq int, k, value string, seen ...api.Seen) api.Effect {
	x.Helper()
	b, _ := pass.Make([]byte(secret), seen...)
	return x.take(api.Msg{Kind: api.MWrite, From: 9 + client, To: x.p.id, Req: api.Req{Client: client, Seq: seq}, Key: key(k), Value: value, Pass: b})
}

// some is a message of each kind that a node takes, to node 1 of the chain 0, 1, 2 of epoch 2.
func some() []api.Msg {
	r := api.Req{Client: 1, Seq: 7}
	c := row(2, 0, 1, 2)
	return []api.Msg{
		{Kind: api.MChain, From: 6, To: 1, Epoch: 2, Nonce: 1, Chain: c},
		{Kind: api.MWrite, From: 10, To: 1, Req: r, Key: key("a"), Value: "x"},
		{Kind: api.MRead, From: 10, To: 1, Req: r, Key: key("a")},
		{Kind: api.MPut, From: 0, To: 1, Epoch: 2, Index: 4, Prev: 3, Last: 1, Recs: []api.Record{rec(4, "a", 4)}},
		{Kind: api.MBase, From: 0, To: 1, Epoch: 2, Table: api.Table{Index: 9, Epoch: 2, Cells: []api.Cell{{Key: key("a"), Ver: 9, Value: "x"}}, Done: []api.Done{{Client: 0, Seq: 9, Ver: 9}}}},
		{Kind: api.MHave, From: 2, To: 1, Epoch: 2, Index: 2, Yes: true},
		{Kind: api.MAck, From: 2, To: 1, Epoch: 2, Commit: 2},
		{Kind: api.MVer, From: 2, To: 1, Epoch: 2, Nonce: 1, Ver: 2},
	}
}

// between is node 1 of the chain 0, 1, 2 of epoch 2, with three records, of which one is committed, and two reads that wait, the first of them fixed.
func between(t *testing.T) *pair {
	t.Helper()
	x := in(t, 1, shelfOf(t, 0, 1, 3), row(2, 0, 1, 2))
	x.read(2, 1, api.Bounded, 2)
	x.read(3, 1, api.Strong, 0)
	return x
}

// P18.3: what can't be, is for somebody else, or is for masters or clients.
func TestNoMessage(t *testing.T) {
	x := between(t)
	for _, m := range some() {
		if f := between(t).take(m); f.Err != api.OK {
			t.Error(m, f)
		}
		for _, to := range []int{0, 2, 5, 6, 9, 12, 13, -1} {
			w := m
			w.To = to
			x.fails(w, api.ErrMsg)
		}
		for _, from := range []int{1, -1, 13} {
			w := m
			w.From = from
			x.fails(w, api.ErrMsg)
		}
		for _, kind := range []int{0, 1, 2, 3, 4, 5, 6, 16, 17, -1} {
			w := m
			w.Kind = kind
			x.fails(w, api.ErrMsg)
		}
		w := m
		w.Term = 1
		x.fails(w, api.ErrMsg)
	}
	c := row(2, 0, 1, 2)
	for _, m := range []api.Msg{
		{Kind: api.MVote, From: 6, To: 1, Term: 1}, {Kind: api.MGrant, From: 6, To: 1, Term: 1}, {Kind: api.MFeed, From: 6, To: 1, Term: 1}, {Kind: api.MFed, From: 6, To: 1, Term: 1},
		{Kind: api.MTell, From: 6, To: 1, Cmd: api.Command{Kind: api.CDead, Node: 2, Epoch: 1}}, {Kind: api.MSure, From: 6, To: 1, Epoch: 2, Nonce: 1},
		{Kind: api.MDone, From: 10, To: 1, Req: api.Req{Client: 1, Seq: 1}},
		{Kind: api.MChain, From: 6, To: 1, Chain: api.Chain{Epoch: 3, Members: slices.Concat(c.Members, c.Members)}},
		{Kind: api.MPut, From: 0, To: 1, Epoch: 2, Recs: recs(5)},
	} {
		x.fails(m, api.ErrMsg)
	}
}

// P18.3: masters alone tell chains, and clients call for themselves alone.
func TestWhoMayCall(t *testing.T) {
	x := between(t)
	for _, m := range some()[:3] {
		for from := range 13 {
			w := m
			w.From = from
			if m.Kind == api.MChain && from >= 6 && from <= 8 || m.Kind != api.MChain && from == 10 || from == 1 {
				continue
			}
			x.fails(w, api.ErrMsg)
		}
	}
	for from := 6; from <= 8; from++ {
		x := in(t, 1, shelf.New(), row(2, 0, 1))
		x.want(x.take(api.Msg{Kind: api.MChain, From: from, To: 1, Chain: row(3, 0, 1)}), "era 3", "")
	}
}

// P18.3: a chain of a greater epoch is adopted, and what becomes of what was.
func TestAdopt(t *testing.T) {
	for _, c := range []struct {
		name         string
		id           int
		chain        api.Chain
		stored, sent string
	}{
		{"head", 0, row(3, 0, 1), "era 3", "put 0>1 epoch=3 index=3 prev=3 last=1 commit=1"},
		{"alone", 0, row(7, 0), "era 7", ""},
		{"tail", 1, row(3, 0, 1), "era 3", "ack 1>0 epoch=3 commit=3"},
		{"between", 1, row(3, 0, 1, 12), "era 3", "put 1>2 epoch=3 index=3 prev=3 last=1 commit=1"},
		{"fresh", 1, row(3, 0, 11, 2), "era 3", ""},
		{"fresh tail", 1, row(3, 0, 11), "era 3", ""},
		{"elsewhere", 4, row(3, 0, 1), "era 3", ""},
		{"the last one", 0, row(1<<40, 0), "era 1099511627776", ""},
	} {
		t.Run(c.name, func(t *testing.T) {
			for _, era := range []int{0, 2} {
				x := pairOf(t, c.id, shelfOf(t, 0, 1, 3), era)
				x.want(x.adopts(c.chain), c.stored, c.sent)
				x.want(x.adopts(c.chain), "", "")
			}
			for _, era := range []int{c.chain.Epoch, 1 << 40} {
				x := pairOf(t, c.id, shelfOf(t, 0, 1, 3), era)
				x.want(x.adopts(c.chain), "", "")
				if x.s.Chain().Epoch != 0 {
					t.Error(x.s.Chain())
				}
			}
		})
	}
}

// P18.3: an adopted chain ends all reads; writes that wait stay at the head alone.
func TestAdoptEndsReads(t *testing.T) {
	x := between(t)
	want := "done 1>11 err=153 req=2.1 chain=2 members=0.0,1.0,2.0; done 1>12 err=153 req=3.1 chain=2 members=0.0,1.0,2.0; put 1>2 epoch=3 index=3 prev=3 last=1 commit=1"
	x.want(x.adopts(row(3, 1, 2)), "era 3", want)
	for _, c := range []struct {
		chain  api.Chain
		writes int
		sent   string
	}{
		{row(3, 0, 1), 2, "put 0>1 epoch=3 index=2 prev=2 last=2"},
		{row(3, 1, 0), 0, "ack 0>1 epoch=3 commit=2"},
		{row(3, 1, 2), 0, ""},
		{row(3, 0), 0, "done 0>9 ver=1 req=0.1 chain=3 members=0.0 saw a 1; done 0>10 ver=1 req=1.1 chain=3 members=0.0 saw b 1"},
	} {
		x := in(t, 0, shelf.New(), row(2, 0, 1))
		x.write(0, 1, "a", "x")
		x.write(1, 1, "b", "y")
		x.want(x.adopts(c.chain), "era 3", c.sent)
		if w, _ := x.s.Waiting(); w != c.writes {
			t.Error(c, w)
		}
	}
}

// P18.3: behind a new epoch nothing is known of the one next, and nobody is synced.
func TestAdoptForgets(t *testing.T) {
	x := in(t, 1, shelf.New(), row(2, 0, 11, 2))
	x.take(api.Msg{Kind: api.MPut, From: 0, To: 1, Epoch: 2, Index: 2, Recs: recs(2)})
	x.take(api.Msg{Kind: api.MHave, From: 2, To: 1, Epoch: 2, Index: 1, Yes: true})
	x.want(x.tick(), "", "put 1>2 epoch=2 index=2 prev=1 last=1 recs=2.1.61.2.7632.0.2; ack 1>0 epoch=2; tell 1>678 cmd=4.1.0.2")
	x.want(x.adopts(row(3, 0, 11, 2)), "era 3", "")
	x.want(x.tick(), "", "")
	x.want(x.adopts(row(3, 0, 1, 2)), "", "")
	x.want(x.tick(), "", "put 1>2 epoch=3 index=2 prev=2 last=1; ack 1>0 epoch=3")
}

// P18.3: a chain of the same epoch and nodes makes nodes whole, and no others.
func TestReady(t *testing.T) {
	for _, c := range []struct{ told, want api.Chain }{
		{row(2, 0, 1, 12), row(2, 0, 1, 12)},
		{row(2, 0, 11, 2), row(2, 0, 11, 2)},
		{row(2, 0, 1, 2), row(2, 0, 1, 2)},
		{row(2, 2, 0, 11), row(2, 0, 11, 2)},
		{row(2, 0, 11, 12), row(2, 0, 11, 12)},
		{row(2, 0, 1), row(2, 0, 11, 12)},
		{row(2, 0, 1, 2, 3), row(2, 0, 11, 12)},
		{row(2, 0, 1, 3), row(2, 0, 11, 12)},
		{row(1, 0, 1, 2), row(2, 0, 11, 12)},
		{api.Chain{}, row(2, 0, 11, 12)},
	} {
		x := in(t, 1, shelf.New(), row(2, 0, 11, 12))
		x.want(x.adopts(c.told), "", "")
		if fmt.Sprint(x.s.Chain()) != fmt.Sprint(c.want) {
			t.Error(c.told, x.s.Chain())
		}
	}
	x := in(t, 1, shelf.New(), row(2, 0, 1, 2))
	x.want(x.adopts(row(2, 0, 11, 12)), "", "")
	if fmt.Sprint(x.s.Chain()) != fmt.Sprint(row(2, 0, 1, 2)) {
		t.Error("who is whole is fresh again", x.s.Chain())
	}
}

// P18.3: masters say that it is still the same epoch: just the read that asked is answered.
func TestSure(t *testing.T) {
	c := row(2, 0, 1, 2)
	is := " chain=2 members=0.0,1.0,2.0"
	for _, k := range []struct {
		name         string
		m            api.Msg
		stored, sent string
		left         int
	}{
		{"same", api.Msg{Epoch: 2, Nonce: 1, Chain: c}, "", "done 1>11 ver=1 req=2.1 value=7631" + is + " saw a 1", 1},
		{"elder", api.Msg{Epoch: 2, Nonce: 1, Chain: row(1, 0, 1, 2)}, "", "done 1>11 err=153 req=2.1" + is, 1},
		{"none", api.Msg{Epoch: 2, Nonce: 1}, "", "done 1>11 err=153 req=2.1" + is, 1},
		{"newer", api.Msg{Epoch: 2, Nonce: 1, Chain: row(3, 0, 1)}, "era 3", "done 1>11 err=153 req=2.1" + is + "; done 1>12 err=153 req=3.1" + is + "; ack 1>0 epoch=3 commit=3", 0},
		{"not fixed", api.Msg{Epoch: 2, Nonce: 2, Chain: c}, "", "", 2},
		{"no nonce", api.Msg{Epoch: 2, Chain: c}, "", "", 2},
		{"another nonce", api.Msg{Epoch: 2, Nonce: 3, Chain: c}, "", "", 2},
		{"asked in an elder epoch", api.Msg{Epoch: 1, Nonce: 1, Chain: c}, "", "", 2},
		{"asked in a newer epoch", api.Msg{Epoch: 3, Nonce: 1, Chain: c}, "", "", 2},
		{"asked in no epoch", api.Msg{Nonce: 1, Chain: c}, "", "", 2},
	} {
		t.Run(k.name, func(t *testing.T) {
			x := between(t)
			k.m.Kind, k.m.From, k.m.To = api.MChain, 8, 1
			x.want(x.take(k.m), k.stored, k.sent)
			if _, r := x.s.Waiting(); r != k.left {
				t.Error(r)
			}
			if k.left == 1 {
				x.want(x.take(k.m), "", "")
			}
		})
	}
}

// P18.3: passes that are none are refused, ahead of all else.
func TestPasses(t *testing.T) {
	good, _ := pass.Make([]byte(secret), api.Seen{Key: key("a"), Ver: 1})
	other, _ := pass.Make([]byte("fedcba9876543210"), api.Seen{Key: key("a"), Ver: 1})
	for _, b := range [][]byte{other, good[1:], append(slices.Clone(good), 0), {0}, make([]byte, 120)} {
		for _, x := range []*pair{pairOf(t, 1, shelf.New(), 0), between(t)} {
			for _, m := range some()[1:3] {
				m.Pass, m.Mode = b, m.Mode+3*(m.Kind-api.MWrite)
				f := x.take(m)
				want := "done 1>10 err=100 req=1.7"
				if x.s.Era() > 0 {
					want += " chain=2 members=0.0,1.0,2.0"
				}
				x.want(f, "", want)
			}
		}
	}
}

// P18.3, P18.6, P18.7: a write at the head goes down, waits, and is answered when it is committed; asked for once more it is the same.
func TestWrite(t *testing.T) {
	x := in(t, 0, shelf.New(), row(1, 0, 1))
	is := " chain=1 members=0.0,1.0"
	one, two, three := "1.1.61.1.78.1.4", "2.1.61.2.79.2.1", "3.1.61.3.78.1.5"
	x.want(x.take(api.Msg{Kind: api.MHave, From: 1, To: 0, Epoch: 1, Yes: true}), "", "")
	x.want(x.write(1, 4, "a", "x", api.Seen{Key: key("b"), Ver: 3}), "rec 1", "put 0>1 epoch=1 index=1 recs="+one)
	x.want(x.write(1, 4, "a", "x"), "", "")
	x.want(x.write(2, 1, "a", "y"), "rec 2", "put 0>1 epoch=1 index=2 recs="+one+","+two)
	x.want(x.write(1, 4, "a", "z", api.Seen{Key: key("c"), Ver: 5}), "", "")
	if w, _ := x.s.Waiting(); w != 2 {
		t.Error(w)
	}
	ack := api.Msg{Kind: api.MAck, From: 1, To: 0, Epoch: 1, Commit: 9}
	x.want(x.take(ack), "", "done 0>11 ver=2 req=2.1"+is+" saw a 2; done 0>10 ver=1 req=1.4"+is+" saw a 1 saw c 5")
	x.want(x.take(ack), "", "")
	x.want(x.write(1, 4, "a", "x", api.Seen{Key: key("b"), Ver: 3}), "", "done 0>10 ver=1 req=1.4"+is+" saw a 1 saw b 3")
	x.want(x.write(1, 3, "a", "x"), "", "done 0>10 err=153 req=1.3"+is)
	x.want(x.write(1, 5, "a", "x"), "rec 3", "put 0>1 epoch=1 index=3 commit=2 recs="+one+","+two+","+three)
}

// P18.3: writes are for the head alone; alone it settles them at once.
func TestHead(t *testing.T) {
	x := pairOf(t, 1, shelfOf(t, 0, 0, 2), 0)
	x.want(x.write(0, 1, "a", "x"), "", "done 1>9 err=152 req=0.1")
	for _, c := range []api.Chain{row(1, 0, 1), row(2, 0, 11), row(3, 0, 2), row(4, 0, 1, 2)} {
		x.adopts(c)
		f := x.write(0, 1, "a", "x")
		if len(f.Send) != 1 || f.Send[0].Err != api.ErrHead || len(f.Recs) > 0 {
			t.Error(told(f))
		}
	}
	x.adopts(row(5, 1, 0))
	x.want(x.write(0, 1, "a", "x"), "", "done 1>9 ver=1 req=0.1 chain=5 members=1.0,0.0 saw a 1")
	x.want(x.write(3, 1, "a", "x"), "rec 3", "put 1>0 epoch=5 index=3 prev=3 last=5 commit=2")
	x.adopts(row(6, 1))
	x.want(x.write(3, 2, "b", "y"), "rec 4", "done 1>12 ver=1 req=3.2 chain=6 members=1.0 saw b 1")
}

// seen is so many keys that were seen.
func seen(n int) []api.Seen {
	var l []api.Seen
	for i := range n {
		l = append(l, api.Seen{Key: key(string(rune('p' + i))), Ver: 1 + i})
	}
	return l
}

// gaps is a shelf with records of client 0, whose requests have even numbers, of one key, or of a key each.
func gaps(t *testing.T, low, commit, last int, keys bool) *shelf.Shelf {
	t.Helper()
	s := shelf.New()
	for _, x := range recs(last) {
		x.Req.Seq *= 2
		if keys {
			x.Key, x.Ver = key(string(rune('a'+x.Index))), 1
		}
		s.Add(x)
		if x.Index <= low {
			s.Settle(x.Index)
			s.Fold(x.Index)
		}
	}
	if s.Settle(commit) != api.OK {
		t.Fatal(low, commit, last)
	}
	return s
}

// P18.3: why a write is refused, the first of several reasons first.
func TestWriteRefused(t *testing.T) {
	for _, c := range []struct {
		name  string
		on    *shelf.Shelf
		waits int // writes that wait of records that are there
		stale bool
		key   string
		seen  int
		errno api.Errno
	}{
		{"room", gaps(t, 0, 0, 7, false), 7, false, "a", 5, api.OK},
		{"seen too much", gaps(t, 0, 0, 3, false), 0, false, "a", 6, api.ErrFull},
		{"seen it", gaps(t, 0, 0, 3, false), 0, false, "p", 6, api.OK},
		{"eight dirty", gaps(t, 0, 0, 8, false), 0, false, "a", 0, api.ErrFull},
		{"stale", gaps(t, 0, 0, 3, false), 0, true, "a", 0, api.ErrStale},
		{"stale, and eight dirty", gaps(t, 0, 0, 8, false), 0, true, "a", 0, api.ErrStale},
		{"stale, and seen too much", gaps(t, 0, 0, 3, false), 0, true, "a", 6, api.ErrFull},
		{"stale, and eleven wait", gaps(t, 0, 0, 24, false), 11, true, "a", 0, api.ErrStale},
		{"stale, and twelve wait", gaps(t, 0, 0, 24, false), 12, true, "a", 0, api.ErrFull},
		{"stale, and more wait", gaps(t, 0, 0, 24, false), 20, true, "a", 0, api.ErrFull},
		{"a thirteenth key", gaps(t, 0, 12, 12, true), 0, false, "a", 0, api.ErrFull},
		{"a key of twelve", gaps(t, 0, 12, 12, true), 0, false, "b", 0, api.OK},
		{"a twelfth key", gaps(t, 0, 11, 11, true), 0, false, "a", 0, api.OK},
		{"stale, and a thirteenth key", gaps(t, 0, 12, 12, true), 0, true, "a", 0, api.ErrStale},
	} {
		t.Run(c.name, func(t *testing.T) {
			x := in(t, 0, c.on, row(2, 0, 1))
			for i := range c.waits {
				x.want(x.write(0, 2*i+2, "a", "x"), "", "")
			}
			client, seq := 1, 1
			if c.stale {
				client, seq = 0, 3
			}
			f := x.write(client, seq, c.key, "x", seen(c.seen)...)
			w, _ := x.s.Waiting()
			switch {
			case c.errno == api.OK && (len(f.Recs) != 1 || len(f.Send) != 1 || f.Send[0].Kind != api.MPut || w != c.waits+1):
				t.Error(told(f), w)
			case c.errno != api.OK && (stores(f) != "" || says(f) != fmt.Sprintf("done 0>%d err=%d req=%d.%d chain=2 members=0.0,1.0", 9+client, c.errno, client, seq) || w != c.waits):
				t.Error(told(f), w)
			}
		})
	}
}

// P18.3: a write for which the shelf has no room is refused, and then there is room: what is committed was folded.
func TestWriteNoRoom(t *testing.T) {
	x := in(t, 0, shelfOf(t, 0, 0, 24), row(2, 0, 1))
	ack := func(n int) api.Effect {
		return x.take(api.Msg{Kind: api.MAck, From: 1, To: 0, Epoch: 2, Commit: n})
	}
	x.want(ack(20), "", "")
	x.want(x.write(1, 1, "b", "y"), "fold 20", "done 0>10 err=7 req=1.1 chain=2 members=0.0,1.0")
	x.want(x.write(1, 1, "b", "y"), "rec 25", "put 0>1 epoch=2 index=25 prev=25 last=2 commit=20")
}

// P18.3: a write whose session has seen too much meanwhile is refused when it is committed.
func TestAnswerRefused(t *testing.T) {
	x := in(t, 0, shelf.New(), row(2, 0, 1))
	x.write(1, 1, "a", "x")
	x.write(2, 1, "a", "y")
	x.want(x.write(1, 1, "a", "x", seen(6)...), "", "")
	f := x.take(api.Msg{Kind: api.MAck, From: 1, To: 0, Epoch: 2, Commit: 2})
	x.want(f, "", "done 0>11 ver=2 req=2.1 chain=2 members=0.0,1.0 saw a 2; done 0>10 err=7 req=1.1 chain=2 members=0.0,1.0")
	x.want(x.write(1, 1, "a", "x", seen(6)...), "", "done 0>10 err=7 req=1.1 chain=2 members=0.0,1.0")
}

// P18.3: eventual reads are told what is committed, by whomever, unless more was seen.
func TestEventual(t *testing.T) {
	for _, c := range []struct {
		name string
		x    *pair
		is   string
	}{
		{"no chain", pairOf(t, 1, shelfOf(t, 0, 2, 3), 3), ""},
		{"elsewhere", in(t, 1, shelfOf(t, 0, 2, 3), row(2, 0, 2)), " chain=2 members=0.0,2.0"},
		{"fresh", in(t, 1, shelfOf(t, 0, 2, 3), row(2, 0, 11)), " chain=2 members=0.0,1.0.f"},
		{"whole", in(t, 1, shelfOf(t, 1, 2, 3), row(2, 0, 1, 2)), " chain=2 members=0.0,1.0,2.0"},
	} {
		t.Run(c.name, func(t *testing.T) {
			c.x.T = t
			read := func(k string, l ...api.Seen) api.Effect {
				b, _ := pass.Make([]byte(secret), l...)
				return c.x.take(api.Msg{Kind: api.MRead, From: 9, To: 1, Mode: api.Eventual, Req: api.Req{Seq: 1}, Key: key(k), Pass: b})
			}
			a := func(ver int) api.Seen { return api.Seen{Key: key("a"), Ver: ver} }
			c.x.want(read("a"), "", "done 1>9 ver=2 req=0.1 value=7632"+c.is+" saw a 2")
			c.x.want(read("a", a(1)), "", "done 1>9 ver=2 req=0.1 value=7632"+c.is+" saw a 2")
			c.x.want(read("a", a(2)), "", "done 1>9 ver=2 req=0.1 value=7632"+c.is+" saw a 2")
			c.x.want(read("b", a(9)), "", "done 1>9 req=0.1"+c.is+" saw a 9")
			c.x.want(read("a", seen(6)...), "", "done 1>9 err=7 req=0.1"+c.is)
			c.x.want(read("b", seen(6)...), "", "done 1>9 req=0.1"+c.is+" saw p 1 saw q 2 saw r 3 saw s 4 saw t 5 saw u 6")
			if c.name == "whole" {
				c.x.want(read("a", a(3)), "", "ask 1>2 epoch=2 nonce=1 key=61")
				return
			}
			c.x.want(read("a", a(3)), "", "done 1>9 err=151 req=0.1"+c.is)
		})
	}
}

// P18.3: strong and bounded reads wait, and are fixed at once, if no record of the key, or not too many, is on its way.
func TestReads(t *testing.T) {
	sure, ask := "sure 1>678 epoch=2 nonce=1", "ask 1>2 epoch=2 nonce=1 key=61"
	for _, c := range []struct {
		commit, last, mode, bound int
		want                      string
	}{
		{0, 0, 0, 0, sure}, {3, 3, 0, 0, sure}, {3, 3, 1, 0, sure}, {2, 3, 0, 0, ask}, {2, 3, 0, 9, ask},
		{2, 3, 1, 0, ask}, {2, 3, 1, 1, sure}, {1, 3, 1, 1, ask}, {1, 3, 1, 2, sure}, {0, 3, 1, 3, sure}, {0, 3, 1, 2, ask}, {0, 3, 1, 1 << 40, sure},
		{2, 3, 3, 0, "done 1>10 err=1 req=1.7 chain=2 members=0.0,1.0,2.0"}, {3, 3, 1 << 40, 9, "done 1>10 err=1 req=1.7 chain=2 members=0.0,1.0,2.0"},
	} {
		x := in(t, 1, shelfOf(t, 0, c.commit, c.last), row(2, 0, 1, 2))
		x.want(x.read(1, 7, c.mode, c.bound), "", c.want)
		if _, r := x.s.Waiting(); (r == 1) != (c.mode < 2) {
			t.Error(c, r)
		}
		if c.want != sure {
			continue
		}
		want := "done 1>10 req=1.7 chain=2 members=0.0,1.0,2.0"
		if c.commit > 0 {
			want = fmt.Sprintf("done 1>10 ver=%d req=1.7 value=763%d chain=2 members=0.0,1.0,2.0 saw a %d", c.commit, c.commit, c.commit)
		}
		// What is committed meanwhile does not matter any more.
		x.take(api.Msg{Kind: api.MAck, From: 2, To: 1, Epoch: 2, Commit: 3})
		x.want(x.take(api.Msg{Kind: api.MChain, From: 6, To: 1, Epoch: 2, Nonce: 1, Chain: row(2, 0, 1, 2)}), "", want)
	}
	for _, x := range []*pair{pairOf(t, 1, shelf.New(), 3), in(t, 1, shelf.New(), row(2, 0, 2)), in(t, 1, shelf.New(), row(2, 0, 11))} {
		for mode := range 2 {
			if f := x.read(1, 7, mode, 9); len(f.Send) != 1 || f.Send[0].Err != api.ErrWait {
				t.Error(told(f))
			}
		}
		if f := x.read(1, 7, 3, 9); len(f.Send) != 1 || f.Send[0].Err != api.ErrArg {
			t.Error(told(f))
		}
	}
}

// P18.3: at most twelve reads wait; one that is asked for once more waits behind all others, with a new nonce.
func TestReadsWait(t *testing.T) {
	x := in(t, 1, shelfOf(t, 0, 2, 3), row(2, 0, 1, 2))
	for i := 1; i <= 12; i++ {
		x.want(x.read(i%4, i, api.Strong, 0), "", fmt.Sprintf("ask 1>2 epoch=2 nonce=%d key=61", i))
	}
	x.want(x.read(0, 99, api.Strong, 0), "", "done 1>9 err=7 req=0.99 chain=2 members=0.0,1.0,2.0")
	x.want(x.read(0, 12, api.Bounded, 1), "", "sure 1>678 epoch=2 nonce=13")
	x.want(x.read(1, 1, api.Strong, 0), "", "ask 1>2 epoch=2 nonce=14 key=61")
	if _, r := x.s.Waiting(); r != 12 {
		t.Error(r)
	}
	f := x.tick()
	if n := len(f.Send); f.Send[2].Nonce != 2 || f.Send[n-1].Nonce != 14 || f.Send[n-2].Nonce != 13 || n != 2+10+3+1 {
		t.Error(says(f))
	}
	// One that is eventual, and can be answered, leaves the one that waits; else it waits no more, also if it is refused.
	x.want(x.read(0, 8, api.Eventual, 0), "", "done 1>9 ver=2 req=0.8 value=7632 chain=2 members=0.0,1.0,2.0 saw a 2")
	if _, r := x.s.Waiting(); r != 12 {
		t.Error(r)
	}
	x.want(x.read(0, 8, 3, 0), "", "done 1>9 err=1 req=0.8 chain=2 members=0.0,1.0,2.0")
	if _, r := x.s.Waiting(); r != 12 {
		t.Error(r)
	}
}
