package ledger_test

import (
	"bytes"
	"math"
	"math/rand/v2"
	"testing"

	"towline/api"
	"towline/ledger"
)

// cmd is a command.
func cmd(kind, node, site, epoch int) api.Command {
	return api.Command{Kind: kind, Node: node, Site: site, Epoch: epoch}
}

// mayBe is the chapter's words of a command, kind by kind.
func mayBe(c api.Command) bool {
	if c.Epoch < 1 || c.Epoch > 1<<40 || c.Node < 0 || c.Node > 5 || c.Site < 0 || c.Site > 2 {
		return false
	}
	switch c.Kind {
	case 1, 3, 4:
		return c.Site == 0
	case 2:
		return true
	case 5:
		return c.Node == 0
	}
	return false
}

// numbers is numbers as the chapter of wire says, seven bits a byte.
func numbers(l ...int) []byte {
	var b []byte
	for _, n := range l {
		for ; n > 127; n /= 128 {
			b = append(b, byte(n%128)+128)
		}
		b = append(b, byte(n))
	}
	return b
}

// commands is all about which there is a doubt: each kind, node, site and epoch about its limits.
func commands() []api.Command {
	var out []api.Command
	for _, kind := range []int{math.MinInt, -1, 0, 1, 2, 3, 4, 5, 6, 7, 128, 1 << 40, math.MaxInt} {
		for _, node := range []int{math.MinInt, -1, 0, 1, 4, 5, 6, 64, math.MaxInt} {
			for _, site := range []int{math.MinInt, -1, 0, 1, 2, 3, math.MaxInt} {
				for _, epoch := range []int{math.MinInt, -1, 0, 1, 127, 128, 300, 1<<40 - 1, 1 << 40, 1<<40 + 1, math.MaxInt} {
					out = append(out, cmd(kind, node, site, epoch))
				}
			}
		}
	}
	return out
}

// P12.1: which commands may be; those are put, and got as they were.
func TestCommands(t *testing.T) {
	may := 0
	for _, c := range commands() {
		e := ledger.Check(c)
		b, f := ledger.Put(c)
		if !mayBe(c) {
			if e != api.ErrCommand || f != api.ErrCommand || b != nil {
				t.Fatalf("%+v: %d, %v, %d", c, e, b, f)
			}
			continue
		}
		may++
		if e != api.OK || f != api.OK || !bytes.Equal(b, numbers(c.Kind, c.Node, c.Site, c.Epoch)) {
			t.Fatalf("%+v: %d, %v, %d", c, e, b, f)
		}
		if got, e := ledger.Get(b); e != api.OK || got != c {
			t.Fatalf("%+v: %+v, %d", c, got, e)
		}
	}
	if may != 6*(3*4+4*3+3) {
		t.Error(may)
	}
	if b, _ := ledger.Put(cmd(api.CJoin, 5, 2, 300)); !bytes.Equal(b, []byte{2, 5, 2, 172, 2}) {
		t.Error(b)
	}
}

// P12.1: of short bytes just those are commands that are the bytes of one.
func TestGetShort(t *testing.T) {
	got := 0
	var try func(b []byte)
	try = func(b []byte) {
		c, e := ledger.Get(b)
		want := len(b) == 4 && mayBe(cmd(int(b[0]), int(b[1]), int(b[2]), int(b[3])))
		if want != (e == api.OK) || e != api.OK && (e != api.ErrCommand || c != api.Command{}) || want && c != cmd(int(b[0]), int(b[1]), int(b[2]), int(b[3])) {
			t.Fatalf("%v: %+v, %d", b, c, e)
		}
		if want {
			got++
		}
		if len(b) == 5 {
			return
		}
		for i := range 8 {
			try(append(b[:len(b):len(b)], byte(i)))
		}
	}
	try(nil)
	if got != 7*(3*6+6*3+3) {
		t.Error(got)
	}
}

// P12.1: what is cut off, has more behind it, or a number in another form, is no command.
func TestGetWrong(t *testing.T) {
	for _, c := range commands() {
		if !mayBe(c) {
			continue
		}
		b, _ := ledger.Put(c)
		for i := range b {
			if got, e := ledger.Get(b[:i]); e != api.ErrCommand || got != (api.Command{}) {
				t.Fatalf("%v: %+v, %d", b[:i], got, e)
			}
			if b[i] < 128 {
				long := append(append(bytes.Clone(b[:i]), b[i]+128, 0), b[i+1:]...)
				if got, e := ledger.Get(long); e != api.ErrCommand || got != (api.Command{}) {
					t.Fatalf("%v: %+v, %d", long, got, e)
				}
			}
		}
		for _, more := range [][]byte{{0}, {1}, {128}, b} {
			if got, e := ledger.Get(append(bytes.Clone(b), more...)); e != api.ErrCommand || got != (api.Command{}) {
				t.Fatalf("%v, %v: %+v, %d", b, more, got, e)
			}
		}
	}
	for _, b := range [][]byte{
		numbers(1, 0, 0, 1<<40+1), numbers(1, 0, 0, 1<<62), numbers(1, 0, 0, math.MaxInt), numbers(257, 0, 0, 1), numbers(1, 256, 0, 1), numbers(2, 0, 256, 1), numbers(1<<32+1, 0, 0, 1),
		bytes.Repeat([]byte{255}, 40), make([]byte, 1<<16),
		{1, 0, 0, 255, 255, 255, 255, 255, 255, 255, 255, 255, 1},
	} {
		if got, e := ledger.Get(b); e != api.ErrCommand || got != (api.Command{}) {
			t.Fatalf("%v: %+v, %d", b, got, e)
		}
	}
}

// P12.1: whatever is got is put so again.
func TestGetPut(t *testing.T) {
	r := rand.New(rand.NewPCG(120, 1))
	got := 0
	for range 200000 {
		b := make([]byte, 3+r.IntN(4))
		for i := range b {
			b[i] = byte(r.IntN(7))
			if i > 2 {
				b[i] = byte(r.Uint32())
			}
		}
		c, e := ledger.Get(b)
		if e != api.OK {
			continue
		}
		got++
		if again, e := ledger.Put(c); e != api.OK || !bytes.Equal(again, b) {
			t.Fatalf("%v: %+v, %v, %d", b, c, again, e)
		}
	}
	if got < 1000 {
		t.Error(got)
	}
}

// The rule Memory: bytes that are put are new ones, bytes that are got from stay.
func TestCommandMemory(t *testing.T) {
	c := cmd(api.CDead, 3, 0, 500)
	a, _ := ledger.Put(c)
	b, _ := ledger.Put(c)
	a = a[:cap(a)]
	for i := range a {
		a[i] = 99
	}
	if got, e := ledger.Get(b); e != api.OK || got != c {
		t.Error(b)
	}
	room := append(bytes.Clone(b), 7, 7, 7)
	if got, e := ledger.Get(room[:len(b)]); e != api.OK || got != c || !bytes.Equal(room, append(bytes.Clone(b), 7, 7, 7)) {
		t.Error(room)
	}
}
