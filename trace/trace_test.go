package trace_test

import (
	"math/rand/v2"
	"reflect"
	"slices"
	"strings"
	"testing"

	"towline/api"
	"towline/proto"
	"towline/trace"
)

// both checks that a message and a text are one another's.
func both(t *testing.T, m api.Msg, s string) {
	t.Helper()
	if got, e := trace.Text(m); e != api.OK || got != s {
		t.Fatalf("%+v: %q, %d, not %q", m, got, e, s)
	}
	if got, e := trace.Parse(s); e != api.OK || !same(got, m) {
		t.Fatalf("%q: %+v, %d, not %+v", s, got, e, m)
	}
}

// P17.1 to P17.3: the chapter's examples, and of each kind all of its fields.
func TestExamples(t *testing.T) {
	q := api.Req{Client: 2, Seq: 40}
	x := api.Record{Index: 3, Epoch: 2, Key: key("ab"), Ver: 1, Value: "xÿ", Req: q}
	chain := api.Chain{Epoch: 12, Members: []api.Member{{Node: 4}, {Node: 0, Site: 1, Fresh: true}, {Node: 5, Site: 2}}}
	table := api.Table{Index: 7, Epoch: 3, Cells: []api.Cell{{Key: key("a"), Ver: 2, Value: "x"}, {Key: key("b"), Ver: 5, Value: "\x00"}}, Done: []api.Done{{Client: 0, Seq: 300, Ver: 2}, {Client: 3, Seq: 1, Ver: 5}}}
	for _, c := range []struct {
		m api.Msg
		s string
	}{
		{api.Msg{Kind: api.MSure, From: 0, To: 6, Nonce: 5}, "sure 0>6 nonce=5"},
		{api.Msg{Kind: api.MWrite, From: 9, To: 0, Req: api.Req{Client: 0, Seq: 1}, Key: key("a"), Value: "x"}, "write 9>0 req=0.1 key=61 value=78"},
		{api.Msg{Kind: api.MVote, From: 6, To: 8, Term: 3, Index: 2, Last: 1}, "vote 6>8 term=3 index=2 last=1"},
		{api.Msg{Kind: api.MGrant, From: 8, To: 6, Term: 3, Yes: true}, "grant 8>6 term=3 yes=1"},
		{api.Msg{Kind: api.MGrant, From: 8, To: 6, Term: 3}, "grant 8>6 term=3"},
		{api.Msg{Kind: api.MFeed, From: 6, To: 7, Term: 9, Prev: 8, Last: 7, Commit: 6, Round: 5, Rows: []api.Row{{Term: 1}, {Term: 2, Data: []byte{0, 255, 0x1a}}}}, "feed 6>7 term=9 prev=8 last=7 commit=6 round=5 rows=1.,2.00ff1a"},
		{api.Msg{Kind: api.MFeed, From: 6, To: 7}, "feed 6>7"},
		{api.Msg{Kind: api.MFed, From: 7, To: 6, Term: 9, Index: 8, Round: 7, Yes: true}, "fed 7>6 term=9 index=8 round=7 yes=1"},
		{api.Msg{Kind: api.MTell, From: 1, To: 6, Cmd: api.Command{Kind: 5, Site: 2, Epoch: top}}, "tell 1>6 cmd=5.0.2.1099511627776"},
		{api.Msg{Kind: api.MChain, From: 6, To: 0, Epoch: 9, Nonce: 8, Chain: chain}, "chain 6>0 epoch=9 nonce=8 chain=12 members=4.0,0.1.f,5.2"},
		{api.Msg{Kind: api.MChain, From: 6, To: 0}, "chain 6>0"},
		{api.Msg{Kind: api.MPut, From: 0, To: 1, Epoch: 9, Index: 8, Prev: 7, Last: 6, Commit: 5, Recs: []api.Record{x, x}}, "put 0>1 epoch=9 index=8 prev=7 last=6 commit=5 recs=3.2.6162.1.78c3bf.2.40,3.2.6162.1.78c3bf.2.40"},
		{api.Msg{Kind: api.MAck, From: 1, To: 0, Epoch: 9, Commit: 8}, "ack 1>0 epoch=9 commit=8"},
		{api.Msg{Kind: api.MBase, From: 0, To: 1, Epoch: 9, Table: table}, "base 0>1 epoch=9 table=7.3 cells=61.2.78,62.5.00 done=0.300.2,3.1.5"},
		{api.Msg{Kind: api.MBase, From: 0, To: 1}, "base 0>1 table=0.0 cells= done="},
		{api.Msg{Kind: api.MHave, From: 1, To: 0, Epoch: 9, Index: 8, Yes: true}, "have 1>0 epoch=9 index=8 yes=1"},
		{api.Msg{Kind: api.MAsk, From: 1, To: 0, Epoch: 9, Nonce: 8, Key: key("é")}, "ask 1>0 epoch=9 nonce=8 key=c3a9"},
		{api.Msg{Kind: api.MVer, From: 0, To: 1, Epoch: 9, Nonce: 8, Ver: 7}, "ver 0>1 epoch=9 nonce=8 ver=7"},
		{api.Msg{Kind: api.MWrite, From: 11, To: 0, Req: q, Key: key("abcdefgh"), Value: " ", Pass: []byte{0, 16}}, "write 11>0 req=2.40 key=6162636465666768 value=20 pass=0010"},
		{api.Msg{Kind: api.MRead, From: 11, To: 0, Mode: 1, Bound: 10, Req: q, Key: key("a"), Pass: []byte{171}}, "read 11>0 mode=1 bound=10 req=2.40 key=61 pass=ab"},
		{api.Msg{Kind: api.MDone, From: 0, To: 11, Ver: 4, Err: 152, Req: q, Value: "x", Pass: []byte{171}, Chain: chain}, "done 0>11 err=152 ver=4 req=2.40 value=78 pass=ab chain=12 members=4.0,0.1.f,5.2"},
		{api.Msg{Kind: api.MDone, From: 12, To: 10, Req: q}, "done 12>10 req=2.40"},
	} {
		both(t, c.m, c.s)
	}
}

// P17.1 to P17.5: messages by chance, held against the chapter's words.
func TestRandom(t *testing.T) {
	r := chance{rand.New(rand.NewPCG(17, 1))}
	for i := range 8000 {
		m := r.msg(1 + i%16)
		if proto.Check(m) != api.OK {
			t.Fatalf("%+v can't be", m)
		}
		both(t, m, text(m))
		if s := text(m); strings.Contains(s, "  ") || strings.TrimSpace(s) != s {
			t.Fatalf("%q", s)
		}
	}
}

// P17.1: what is no message has no text.
func TestTextWrong(t *testing.T) {
	r := chance{rand.New(rand.NewPCG(17, 2))}
	for kind := 1; kind <= 16; kind++ {
		for _, change := range []func(m *api.Msg){
			func(m *api.Msg) { m.Kind = 0 }, func(m *api.Msg) { m.Kind = -1 }, func(m *api.Msg) { m.Kind = 17 }, func(m *api.Msg) { m.Kind = 1 << 62 },
			func(m *api.Msg) { m.From = m.To }, func(m *api.Msg) { m.From = -1 }, func(m *api.Msg) { m.To = 13 },
			func(m *api.Msg) { m.Epoch = -1 }, func(m *api.Msg) { m.Epoch = top + 1 }, func(m *api.Msg) { m.Err = 256 }, func(m *api.Msg) { m.Req = api.Req{Client: 4, Seq: 1} },
			func(m *api.Msg) { m.Rows = make([]api.Row, 5) }, func(m *api.Msg) { m.Recs = make([]api.Record, 1) }, func(m *api.Msg) { m.Table.Epoch = -1 },
			func(m *api.Msg) { m.Chain.Epoch = -1 }, func(m *api.Msg) { m.Cmd.Node = 9 }, func(m *api.Msg) { m.Key = api.Key{0, 1} }, func(m *api.Msg) { m.Value = "\xff" }, func(m *api.Msg) { m.Pass = make([]byte, 121) },
		} {
			m := r.msg(kind)
			change(&m)
			if s, e := trace.Text(m); s != "" || e != api.ErrMsg || proto.Check(m) != e {
				t.Fatalf("%+v: %q, %d", m, s, e)
			}
		}
	}
}

// wrong checks that a text is no message's.
func wrong(t *testing.T, s string, want api.Errno) {
	t.Helper()
	if m, e := trace.Parse(s); e != want || !reflect.DeepEqual(m, api.Msg{}) {
		t.Fatalf("%q: %+v, %d", s, m, e)
	}
}

// P17.2: texts that are none, each by one thing.
func TestParseWrong(t *testing.T) {
	for _, s := range []string{
		"", " ", "sure", "sure ", "sure 0>6 ", " sure 0>6", "sure  0>6", "sure 0>6  nonce=5", "sure 0>6 nonce=5 ", "sure 0>6\tnonce=5", "sure 0>6 nonce=5\n",
		"Sure 0>6", "sur 0>6", "sures 0>6", "0>6", "vote", "6 0>6", "none 0>6",
		"sure 06", "sure 0-6", "sure 0>", "sure >6", "sure >", "sure 0>0", "sure 6>6", "sure 0>13", "sure 13>0", "sure -1>6", "sure 00>6", "sure 0>06", "sure +0>6", "sure 0>6>7", "sure 0>=6", "sure 0 > 6", "sure a>6", "sure 0>6 6",
		"sure 0>6 nonce", "sure 0>6 nonce=", "sure 0>6 nonce=0", "sure 0>6 nonce=05", "sure 0>6 nonce=+5", "sure 0>6 nonce=-5", "sure 0>6 nonce=5.", "sure 0>6 nonce=0x5", "sure 0>6 nonce=1_0", "sure 0>6 nonce==5", "sure 0>6 nonce=5=5", "sure 0>6 =5", "sure 0>6 Nonce=5", "sure 0>6 nonce=5 nonce=5", "sure 0>6 nonce=5,5", "sure 0>6 nonce=٥", "sure 0>6 nonce=5e1",
		"sure 0>6 nonce=1099511627777", "sure 0>6 nonce=99999999999999999999999999", "sure 0>6 nonce=18446744073709551621",
		"sure 0>6 nonce=5 epoch=2", "sure 0>6 term=1", "sure 0>6 what=1", "sure 0>6 yes=1", "sure 0>6 chain=1 members=0.0", "sure 0>6 cmd=1.2.0.3", "sure 0>6 table=0.0 cells= done=", "sure 0>6 rows=", "sure 0>6 key=", "sure 0>6 key=61", "sure 0>6 kind=6", "sure 0>6 from=0",
		"have 0>1 yes=0", "have 0>1 yes=2", "have 0>1 yes=", "have 0>1 yes=01", "have 0>1 yes=true",
		"done 0>9", "done 0>9 req=", "done 0>9 req=0", "done 0>9 req=0.0", "done 0>9 req=4.1", "done 0>9 req=0.1.", "done 0>9 req=0.1.1", "done 0>9 req=0,1", "done 0>9 req=00.1", "done 0>9 req=0.01", "done 0>9 req=.1", "done 0>9 err=256 req=0.1", "done 0>9 err=0 req=0.1", "done 0>9 req=0.1 err=2", "done 0>9 req=0.1 value=", "done 0>9 req=0.1 chain=0 members=",
		"ask 1>0", "ask 1>0 key=6", "ask 1>0 key=616", "ask 1>0 key=6G", "ask 1>0 key=C3A9", "ask 1>0 key=6100", "ask 1>0 key=00", "ask 1>0 key=0061", "ask 1>0 key=ff", "ask 1>0 key=616161616161616161", "ask 1>0 key=6.1", "ask 1>0 key=a",
		"write 9>0 req=0.1 key=61", "write 9>0 req=0.1 key=61 value=", "write 9>0 req=0.1 key=61 value=ff", "write 9>0 req=0.1 value=78 key=61", "write 9>0 req=0.1 key=61 value=78 pass=", "write 9>0 req=0.1 key=61 value=78 pass=a", "write 9>0 req=0.1 key=61 value=" + strings.Repeat("78", 25), "write 9>0 req=0.1 key=61 value=78 pass=" + strings.Repeat("78", 121),
		"feed 6>7 rows=", "feed 6>7 rows=1", "feed 6>7 rows=.", "feed 6>7 rows=0.", "feed 6>7 rows=1.,", "feed 6>7 rows=,1.", "feed 6>7 rows=1.,,1.", "feed 6>7 rows=1..", "feed 6>7 rows=01.", "feed 6>7 rows=1.f", "feed 6>7 rows=1.,1.,1.,1.,1.", "feed 6>7 rows=1." + strings.Repeat("00", 65), "feed 6>7 rows=1.;2.",
		"put 0>1 recs=", "put 0>1 recs=3.2.61.1.78.1", "put 0>1 recs=3.2.61.1.78.1.4.", "put 0>1 recs=3.2.61.1.78.1.4.4", "put 0>1 recs=0.2.61.1.78.1.4", "put 0>1 recs=3.2..1.78.1.4", "put 0>1 recs=3.2.61.1..1.4", "put 0>1 recs=3.2.61.1.78.1.04", "put 0>1 recs=3.2.61.1.78.4.4", "put 0>1 recs=3.2.61.1.78.1.4,", "put 0>1 recs=......",
		"base 0>1", "base 0>1 table=0.0", "base 0>1 table=0.0 cells=", "base 0>1 cells= done=", "base 0>1 table=0.0 done= cells=", "base 0>1 cells= table=0.0 done=", "base 0>1 table= cells= done=", "base 0>1 table=0 cells= done=", "base 0>1 table=0.0.0 cells= done=", "base 0>1 table=1.1 cells= done=", "base 0>1 table=0.0 cells=61.1.78 done=", "base 0>1 table=1.1 cells=61.1.78 done=", "base 0>1 table=1.1 cells=61.1 done=0.1.1", "base 0>1 table=1.1 cells=61.1.78. done=0.1.1", "base 0>1 table=1.1 cells=61.1.78 done=0.1", "base 0>1 table=1.1 cells=61.1.78 done=0.1.1.1", "base 0>1 table=1.1 cells=61.1.78 done=0.1.1,", "base 0>1 table=1.1 cells=61.1.78, done=0.1.1", "base 0>1 table=00.0 cells= done=", "base 0>1 table=0.0 cells= done= epoch=1", "base 0>1 table=0.0 cells= done= chain=1 members=0.0",
		"base 0>1 table=2.1 cells=62.1.78,61.1.78 done=0.1.1",
		"chain 6>0 chain=0", "chain 6>0 chain=1", "chain 6>0 members=0.0", "chain 6>0 members=", "chain 6>0 chain=1 members=", "chain 6>0 members=0.0 chain=1", "chain 6>0 chain=1 members=0", "chain 6>0 chain=1 members=0.0.f", "chain 6>0 chain=1 members=0.0,1.1.F", "chain 6>0 chain=1 members=0.0,1.1.f.f", "chain 6>0 chain=1 members=0.0,1.1f", "chain 6>0 chain=1 members=0.0,1.1.", "chain 6>0 chain=1 members=0.0,.f", "chain 6>0 chain=1 members=0.0,1.1.n", "chain 6>0 chain=1 members=0.0,0.1", "chain 6>0 chain=1 members=0.1,1.0", "chain 6>0 chain=1 members=6.0", "chain 6>0 chain=01 members=0.0", "chain 6>0 chain=1 members=00.0",
		"tell 0>6", "tell 0>6 cmd=", "tell 0>6 cmd=1.2.0", "tell 0>6 cmd=1.2.0.3.", "tell 0>6 cmd=1.2.0.3.4", "tell 0>6 cmd=1.2.1.3", "tell 0>6 cmd=6.2.0.3", "tell 0>6 cmd=1.2.0.0", "tell 0>6 cmd=1.2.0.03", "tell 0>6 cmd=1.2..3", "tell 0>6 cmd=0.0.0.0", "tell 0>6 cmd=1.6.0.3", "tell 0>6 cmd=1.2.0.3 cmd=1.2.0.3",
		"\xff", "sure 0>6 \xff", "日本 0>6", strings.Repeat(" ", 100), strings.Repeat("=", 100), strings.Repeat(".", 100), strings.Repeat("sure 0>6 ", 100),
	} {
		wrong(t, s, api.ErrMsg)
	}
}

// P17.2: too long a text, whatever it is.
func TestParseLong(t *testing.T) {
	right := "sure 0>6 nonce=5"
	for _, s := range []string{" ", "1", ",", "x=1 ", "\x00", ".", "\xff", "7,"} {
		long := right + strings.Repeat(s, api.MaxFrame)
		wrong(t, long[:api.MaxFrame-1], api.ErrMsg)
		wrong(t, long[:api.MaxFrame], api.ErrMsg)
		wrong(t, long[:api.MaxFrame+1], api.ErrLong)
		wrong(t, long, api.ErrLong)
	}
	for _, ahead := range []string{"feed 6>7 rows=1.", "put 0>1 recs=", "base 0>1 table=0.0 cells=", "chain 6>0 chain=1 members=", "write 9>0 req=0.1 key=61 value=78 pass="} {
		for _, s := range []string{",1.", ",", "0.0,", "00"} {
			wrong(t, (ahead + strings.Repeat(s, api.MaxFrame))[:api.MaxFrame], api.ErrMsg)
		}
	}
	wrong(t, strings.Repeat("a", 1<<24), api.ErrLong)
}

// P17.4: whatever is parsed is told so again; what was changed somewhere is another message's, or none's.
func TestOneForm(t *testing.T) {
	r := chance{rand.New(rand.NewPCG(17, 4))}
	signs := []byte("0123456789abcdef.,=> fF-+x")
	got, not := 0, 0
	for i := range 40000 {
		m := r.msg(1 + i%16)
		b := []byte(text(m))
		for range 1 + r.IntN(2) {
			at := r.IntN(len(b))
			switch r.IntN(4) {
			case 0:
				b = slices.Delete(b, at, at+1)
			case 1:
				b = slices.Insert(b, at, signs[r.IntN(len(signs))])
			case 2:
				b[at] = b[r.IntN(len(b))]
			default:
				b[at] = signs[r.IntN(len(signs))]
			}
		}
		s := string(b)
		x, e := trace.Parse(s)
		if e != api.OK {
			not++
			wrong(t, s, api.ErrMsg)
			continue
		}
		got++
		if again, e := trace.Text(x); e != api.OK || again != s || text(x) != s || s != text(m) && same(x, m) {
			t.Fatalf("%q: %+v, %q, %d", s, x, again, e)
		}
	}
	if got < 2000 || not < 20000 {
		t.Error(got, not)
	}
}

// spoil writes all over a list, its spare room too.
func spoil[T any](l []T, x T) {
	l = l[:cap(l)]
	for i := range l {
		l[i] = x
	}
}

// The rule Memory: a message that is told stays; two that were parsed share nothing, nor do the lists of one.
func TestMemory(t *testing.T) {
	r := chance{rand.New(rand.NewPCG(17, 5))}
	for i := range 320 {
		m := r.msg(1 + i%16)
		m.Rows, m.Pass = slices.Grow(m.Rows, 3), slices.Grow(m.Pass, 3)
		was := plain(m)
		s, _ := trace.Text(m)
		if !same(m, was) {
			t.Fatalf("%+v", m)
		}
		a, _ := trace.Parse(s)
		b, _ := trace.Parse(s)
		for k := range a.Rows {
			spoil(a.Rows[k].Data, 77)
			if k+1 < len(a.Rows) && !slices.Equal(a.Rows[k+1].Data, m.Rows[k+1].Data) {
				t.Fatal("two rows share")
			}
		}
		spoil(a.Rows, api.Row{Term: 77})
		spoil(a.Recs, api.Record{Index: 77})
		spoil(a.Pass, 77)
		spoil(a.Table.Cells, api.Cell{Ver: 77})
		spoil(a.Table.Done, api.Done{Ver: 77})
		spoil(a.Chain.Members, api.Member{Node: 77})
		if !same(b, was) {
			t.Fatalf("%q: %+v", s, b)
		}
	}
}
