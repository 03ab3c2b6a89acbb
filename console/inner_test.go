package console

import (
	"testing"

	"towline/api"
	"towline/script"
	"towline/world"
)

// P25.2: judge tells each of the four by itself, of the records in the book: no text can have a book that does not explain all, so it is torn here.
func TestTorn(t *testing.T) {
	first, lines, _, _ := script.Parse("member 0 0\nlead 0\nwrite 0 0 a x\ncarry 50\nwrite 0 0 a y\ncarry 50\nwrite 1 0 b z\ncarry 50\ndrop 2\nwrite 2 0 a w\ndrop 2\n")
	w, e := world.New([]byte(secret), first...)
	if e != api.OK {
		t.Fatal(e)
	}
	s := &stage{book: book{}, world: w}
	for _, l := range lines {
		s.play(l)
	}
	ask := func(want string) {
		t.Helper()
		if got := s.play(api.Line{Word: "judge"}); got != want {
			t.Errorf("%s, not %s", got, want)
		}
	}
	ask("judge 3 true true true true")
	third := s.book[3]
	delete(s.book, 3)
	ask("judge 2 true false true true")
	// The write that nobody answered would be done ahead of one that ended ahead of its beginning.
	s.book[3] = api.Record{Index: 3, Epoch: 1, Key: s.book[1].Key, Ver: 1, Value: "w", Req: api.Req{Client: 2, Seq: 1}}
	ask("judge 3 false false true true")
	s.book[4] = third
	ask("judge 4 false true true true")
	delete(s.book, 1)
	ask("judge 0 true false true true")
	s.book[0] = third
	ask("judge 0 true false true true")
}
