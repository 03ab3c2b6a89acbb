package pass_test

import (
	"bytes"
	"encoding/binary"
	"math"
	"slices"
	"testing"

	"towline/api"
	"towline/pass"
	"towline/tag"
	"towline/wire"
)

var secret = []byte("0123456789abcdef")

// see is a key, of a short text, with a version.
func see(name string, ver int) api.Seen {
	s := api.Seen{Ver: ver}
	copy(s.Key[:], name)
	return s
}

func key(name string) api.Key { return see(name, 0).Key }

// signed is bytes, and their digest behind them.
func signed(t *testing.T, by, b []byte) []byte {
	t.Helper()
	n, e := tag.Short(by, b)
	if e != api.OK {
		t.Fatal(e)
	}
	return binary.BigEndian.AppendUint64(bytes.Clone(b), n)
}

// number is a key of eight bytes as one number.
func number(name string) uint64 {
	k := key(name)
	return binary.BigEndian.Uint64(k[:])
}

// six is as much as one can have seen, and the longest that there may be.
func six() []api.Seen {
	return []api.Seen{see("\U0010ffffaaaa", 1<<40), see("\U0010ffffaaab", 1<<40), see("\U0010ffffabcd", 1<<40), see("\U0010ffffb", 1<<40), see("\U0010ffffbé", 1<<40), see("\U0010ffff\U0010ffff", 1<<40)}
}

// seens is lists that can have been seen.
func seens() [][]api.Seen {
	return [][]api.Seen{
		nil, {}, {see("a", 1)}, {see("abcdefgh", 1<<40)}, {see("é", 127)}, {see("é", 128)}, {see("\x01", 1)},
		{see("a", 3), see("b", 1)},
		{see("B", 1), see("a", 3), see("aa", 2), see("ab", 9), see("b", 1), see("é", 4)},
		{see("b", 5), see("c", 5)},
		six(),
	}
}

// wrong is lists that can't have been seen, and why.
func wrong() []struct {
	l []api.Seen
	e api.Errno
} {
	return []struct {
		l []api.Seen
		e api.Errno
	}{
		{append(six(), see("\U0010ffff\U0010fffe", 1)), api.ErrFull},
		{append([]api.Seen{see("A", 1)}, six()...), api.ErrFull},
		{make([]api.Seen, 7), api.ErrFull},
		{make([]api.Seen, 100000), api.ErrFull},
		{make([]api.Seen, 6), api.ErrPass},
		{[]api.Seen{see("a", 0)}, api.ErrPass},
		{[]api.Seen{see("a", -1)}, api.ErrPass},
		{[]api.Seen{see("a", math.MinInt)}, api.ErrPass},
		{[]api.Seen{see("a", 1<<40+1)}, api.ErrPass},
		{[]api.Seen{see("a", math.MaxInt)}, api.ErrPass},
		{[]api.Seen{see("", 1)}, api.ErrPass},
		{[]api.Seen{see("\x00a", 1)}, api.ErrPass},
		{[]api.Seen{see("a\x00b", 1)}, api.ErrPass},
		{[]api.Seen{see("\xff", 1)}, api.ErrPass},
		{[]api.Seen{see("a", 1), see("a\x80", 1)}, api.ErrPass},
		{[]api.Seen{see("a", 1), see("a", 1)}, api.ErrPass},
		{[]api.Seen{see("a", 1), see("a", 2)}, api.ErrPass},
		{[]api.Seen{see("b", 1), see("a", 1)}, api.ErrPass},
		{[]api.Seen{see("ab", 1), see("a", 1)}, api.ErrPass},
		{[]api.Seen{see("é", 1), see("z", 1)}, api.ErrPass},
		{[]api.Seen{see("a", 1), see("b", 1), see("c", 1), see("d", 1), see("f", 1), see("e", 1)}, api.ErrPass},
		{[]api.Seen{see("a", 1), see("b", 1), see("c", 1), see("d", 1), see("e", 1), see("f", 0)}, api.ErrPass},
	}
}

// P10.1 to P10.3: the chapter's example.
func TestExample(t *testing.T) {
	var l []api.Seen
	for _, s := range []api.Seen{see("a", 3), see("b", 1), see("a", 2)} {
		next, e := pass.See(l, s.Key, s.Ver)
		if e != api.OK {
			t.Fatal(e)
		}
		l = next
	}
	if !slices.Equal(l, []api.Seen{see("a", 3), see("b", 1)}) {
		t.Fatal(l)
	}
	b, e := pass.Make(secret, l...)
	if e != api.OK {
		t.Fatal(e)
	}
	if got, e := pass.Read(secret, b); e != api.OK || !slices.Equal(got, l) {
		t.Error(got, e)
	}
	if got, e := pass.Read(secret, make([]byte, 7)); e != api.ErrPass || len(got) != 0 {
		t.Error(got, e)
	}
}

// P10.1: the bytes of passes, written out.
func TestBytes(t *testing.T) {
	for _, c := range []struct {
		l    []api.Seen
		want []byte
	}{
		{[]api.Seen{see("a", 3), see("b", 300)}, []byte{2, 128, 128, 128, 128, 128, 128, 128, 128, 97, 3, 128, 128, 128, 128, 128, 128, 128, 128, 98, 172, 2}},
		{[]api.Seen{see("é", 1<<40)}, []byte{1, 128, 128, 128, 128, 128, 128, 192, 212, 195, 1, 128, 128, 128, 128, 128, 32}},
		{[]api.Seen{see("\x01\x01\x01\x01\x01\x01\x01\x01", 1)}, []byte{1, 129, 130, 132, 136, 144, 160, 192, 128, 1, 1}},
	} {
		want := signed(t, secret, c.want)
		if b, e := pass.Make(secret, c.l...); e != api.OK || !bytes.Equal(b, want) {
			t.Errorf("%v: %v, %d, not %v", c.l, b, e, want)
		}
		if l, e := pass.Read(secret, want); e != api.OK || !slices.Equal(l, c.l) {
			t.Errorf("%v: %v, %d", want, l, e)
		}
	}
}

// P10.1, P10.3, P10.6: there and back, short; of nothing no bytes.
func TestThereAndBack(t *testing.T) {
	longest := 0
	for _, l := range seens() {
		if e := pass.Right(l); e != api.OK {
			t.Errorf("%v: %d", l, e)
		}
		for _, by := range [][]byte{secret, make([]byte, 16), bytes.Repeat([]byte{255}, 16)} {
			b, e := pass.Make(by, l...)
			if e != api.OK || len(b) > api.MaxText || (len(b) == 0) != (len(l) == 0) {
				t.Errorf("%v: %v, %d", l, b, e)
			}
			longest = max(longest, len(b))
			if got, e := pass.Read(by, b); e != api.OK || !slices.Equal(got, l) {
				t.Errorf("%v: %v, %d", l, got, e)
			}
		}
	}
	if longest != 105 {
		t.Error(longest)
	}
	for _, b := range [][]byte{nil, {}} {
		if l, e := pass.Read(secret, b); len(l) != 0 || e != api.OK {
			t.Error(l, e)
		}
	}
}

// P10.1: keys of other than 16 bytes; Right's error is ahead of that in Make, in Read it is ahead of all.
func TestKeys(t *testing.T) {
	for _, n := range []int{0, 1, 8, 15, 17, 32, 1000} {
		by := make([]byte, n)
		for _, l := range seens() {
			if b, e := pass.Make(by, l...); len(b) != 0 || e != api.ErrArg {
				t.Errorf("%d, %v: %v, %d", n, l, b, e)
			}
			b, _ := pass.Make(secret, l...)
			if got, e := pass.Read(by, b); len(got) != 0 || e != api.ErrArg {
				t.Errorf("%d, %v: %v, %d", n, b, got, e)
			}
		}
		for _, c := range wrong() {
			if b, e := pass.Make(by, c.l...); len(b) != 0 || e != c.e {
				t.Errorf("%d, %v: %v, %d", n, c.l, b, e)
			}
		}
		for _, b := range [][]byte{{0}, make([]byte, 120), make([]byte, 121)} {
			if got, e := pass.Read(by, b); len(got) != 0 || e != api.ErrArg {
				t.Errorf("%d, %v: %v, %d", n, b, got, e)
			}
		}
	}
	if b, e := pass.Make(nil); len(b) != 0 || e != api.ErrArg {
		t.Error(b, e)
	}
	if l, e := pass.Read(nil, nil); len(l) != 0 || e != api.ErrArg {
		t.Error(l, e)
	}
}

// P10.1, P10.2: what can't have been seen.
func TestWrong(t *testing.T) {
	for _, c := range wrong() {
		if e := pass.Right(c.l); e != c.e {
			t.Errorf("%v: %d", c.l, e)
		}
		if b, e := pass.Make(secret, c.l...); len(b) != 0 || e != c.e {
			t.Errorf("Make %v: %v, %d", c.l, b, e)
		}
		for _, s := range slices.Concat(c.l[:min(len(c.l), 9)], []api.Seen{see("a", 1), see("\x00", -1)}) {
			if got := pass.Floor(c.l, s.Key); got != 0 {
				t.Errorf("Floor %v, %v: %d", c.l, s.Key, got)
			}
			if got, e := pass.See(c.l, s.Key, s.Ver); len(got) != 0 || e != c.e {
				t.Errorf("See %v, %v: %v, %d", c.l, s, got, e)
			}
		}
		for _, l := range seens() {
			if got, e := pass.Join(c.l, l); len(got) != 0 || e != c.e {
				t.Errorf("Join %v, %v: %v, %d", c.l, l, got, e)
			}
			if got, e := pass.Join(l, c.l); len(got) != 0 || e != c.e {
				t.Errorf("Join %v, %v: %v, %d", l, c.l, got, e)
			}
		}
		for _, d := range wrong() {
			if got, e := pass.Join(d.l, c.l); len(got) != 0 || e != c.e {
				t.Errorf("Join %v, %v: %v, %d", d.l, c.l, got, e)
			}
		}
	}
}

// refused checks that bytes are no pass.
func refused(t *testing.T, name string, by, b []byte) {
	t.Helper()
	if l, e := pass.Read(by, b); len(l) != 0 || e != api.ErrPass {
		t.Errorf("%s: %v: %v, %d", name, b, l, e)
	}
}

// P10.1: a pass of which a byte is another one, that is cut, longer, or by another key.
func TestForged(t *testing.T) {
	for _, l := range seens()[2:] {
		b, _ := pass.Make(secret, l...)
		for i := range b {
			for x := 1; x < 256; x++ {
				c := bytes.Clone(b)
				c[i] ^= byte(x)
				refused(t, "another byte", secret, c)
			}
		}
		for i := 1; i < len(b); i++ {
			refused(t, "without its last bytes", secret, b[:i])
			refused(t, "without its first bytes", secret, b[i:])
		}
		for x := range 256 {
			refused(t, "a byte behind", secret, append(bytes.Clone(b), byte(x)))
			refused(t, "a byte ahead", secret, append([]byte{byte(x)}, b...))
		}
		refused(t, "twice", secret, append(bytes.Clone(b), b...))
		for i := range 128 {
			by := bytes.Clone(secret)
			by[i/8] ^= 1 << (i % 8)
			refused(t, "another key", by, b)
		}
	}
	for size := 1; size < 200; size++ {
		refused(t, "noughts", secret, make([]byte, size))
		refused(t, "high bytes", secret, bytes.Repeat([]byte{255}, size))
	}
	refused(t, "long", secret, make([]byte, 1<<20))
}

// P10.1: with a digest that is right, bytes that are not those of what can have been seen.
func TestSignedButWrong(t *testing.T) {
	a, b := number("a"), number("b")
	for name, l := range map[string][]uint64{
		"no numbers":             {},
		"nothing seen":           {0},
		"nothing, and one":       {0, a, 1},
		"one, but none there":    {1},
		"one, without a version": {1, a},
		"two, but one there":     {2, a, 1},
		"one, but two there":     {1, a, 1, b, 1},
		"one, and a number":      {1, a, 1, 0},
		"version 0":              {1, a, 0},
		"a version above all":    {1, a, 1<<40 + 1},
		"a version that wraps":   {1, a, 1<<64 - 1},
		"a version of 2^63":      {1, a, 1 << 63},
		"key 0":                  {1, 0, 1},
		"a low key":              {1, 97, 1},
		"a nought inside":        {1, number("a\x00b"), 1},
		"a nought ahead":         {1, number("\x00b"), 1},
		"not UTF-8":              {1, number("\xff"), 1},
		"twice":                  {2, a, 1, a, 1},
		"falling":                {2, b, 1, a, 1},
		"seven":                  {7, a, 1, b, 1, number("c"), 1, number("d"), 1, number("e"), 1, number("f"), 1, number("g"), 1},
		"a huge count":           {1<<64 - 1, a, 1},
		"a count of 2^62":        {1 << 62, a, 1},
	} {
		refused(t, name, secret, signed(t, secret, wire.Put(nil, l...)))
	}
	for name, body := range map[string][]byte{
		"a count of two bytes":   append([]byte{129, 0}, wire.Put(nil, a, 1)...),
		"a version of two bytes": append(wire.Put(nil, 1, a), 129, 0),
		"a number without end":   append(wire.Put(nil, 1, a), 128),
		"a key above 2^64":       append([]byte{1}, append(bytes.Repeat([]byte{255}, 9), 3, 1)...),
	} {
		refused(t, name, secret, signed(t, secret, body))
	}
	good := wire.Put(nil, 2, a, 7, b, 1<<40)
	if l, e := pass.Read(secret, signed(t, secret, good)); e != api.OK || !slices.Equal(l, []api.Seen{see("a", 7), see("b", 1<<40)}) {
		t.Error(l, e)
	}
	refused(t, "the digest twice", secret, signed(t, secret, signed(t, secret, good)))
	turned := signed(t, secret, good)
	slices.Reverse(turned[len(turned)-8:])
	refused(t, "the lowest byte first", secret, turned)
}

// P10.2: what See refuses of what was seen, and when there is no room.
func TestSee(t *testing.T) {
	five := []api.Seen{see("b", 1), see("c", 2), see("d", 3), see("e", 4), see("f", 5)}
	full := append(slices.Clone(five), see("g", 6))
	for _, c := range []struct {
		l    []api.Seen
		s    api.Seen
		want []api.Seen
		e    api.Errno
	}{
		{nil, see("a", 0), nil, api.OK},
		{nil, see("a", 1), []api.Seen{see("a", 1)}, api.OK},
		{nil, see("a", 1<<40), []api.Seen{see("a", 1<<40)}, api.OK},
		{nil, see("a", -1), nil, api.ErrPass},
		{nil, see("a", 1<<40+1), nil, api.ErrPass},
		{nil, see("a", math.MinInt), nil, api.ErrPass},
		{nil, see("a", math.MaxInt), nil, api.ErrPass},
		{nil, see("", 0), nil, api.ErrPass},
		{nil, see("\x00a", 1), nil, api.ErrPass},
		{nil, see("a\x00b", 1), nil, api.ErrPass},
		{nil, see("\xff", 1), nil, api.ErrPass},
		{five, see("d", 0), five, api.OK},
		{five, see("d", 2), five, api.OK},
		{five, see("d", 3), five, api.OK},
		{five, see("d", 4), []api.Seen{see("b", 1), see("c", 2), see("d", 4), see("e", 4), see("f", 5)}, api.OK},
		{five, see("a", 9), append([]api.Seen{see("a", 9)}, five...), api.OK},
		{five, see("cc", 9), []api.Seen{see("b", 1), see("c", 2), see("cc", 9), see("d", 3), see("e", 4), see("f", 5)}, api.OK},
		{five, see("g", 6), full, api.OK},
		{five, see("é", 6), append(slices.Clone(five), see("é", 6)), api.OK},
		{full, see("b", 7), append([]api.Seen{see("b", 7)}, full[1:]...), api.OK},
		{full, see("a", 0), full, api.OK},
		{full, see("a", 1), nil, api.ErrFull},
		{full, see("h", 1), nil, api.ErrFull},
		{full, see("a", -1), nil, api.ErrPass},
		{full, see("", 1), nil, api.ErrPass},
	} {
		got, e := pass.See(c.l, c.s.Key, c.s.Ver)
		if e != c.e || !slices.Equal(got, c.want) {
			t.Errorf("%v, %v: %v, %d", c.l, c.s, got, e)
		}
	}
}

// P10.2: floors.
func TestFloor(t *testing.T) {
	for _, l := range seens() {
		for _, name := range []string{"", "a", "aa", "ab", "b", "c", "é", "\x01", "\x00a", "\xff", "abcdefgh"} {
			want := 0
			for _, s := range l {
				if s.Key == key(name) {
					want = s.Ver
				}
			}
			if got := pass.Floor(l, key(name)); got != want {
				t.Errorf("%v, %q: %d", l, name, got)
			}
		}
	}
}

// P10.2: Join, and when there is no room.
func TestJoin(t *testing.T) {
	l := []api.Seen{see("b", 5), see("d", 5), see("f", 5), see("h", 5)}
	for _, c := range []struct {
		b, want []api.Seen
		e       api.Errno
	}{
		{nil, l, api.OK},
		{l, l, api.OK},
		{[]api.Seen{see("a", 1), see("i", 9)}, []api.Seen{see("a", 1), see("b", 5), see("d", 5), see("f", 5), see("h", 5), see("i", 9)}, api.OK},
		{[]api.Seen{see("b", 4), see("d", 6), see("e", 1), see("f", 5)}, []api.Seen{see("b", 5), see("d", 6), see("e", 1), see("f", 5), see("h", 5)}, api.OK},
		{[]api.Seen{see("a", 1), see("c", 1), see("i", 9)}, nil, api.ErrFull},
		{[]api.Seen{see("a", 1), see("b", 9), see("c", 1), see("d", 9), see("f", 9), see("h", 9)}, []api.Seen{see("a", 1), see("b", 9), see("c", 1), see("d", 9), see("f", 9), see("h", 9)}, api.OK},
	} {
		for _, turned := range []bool{false, true} {
			x, y := l, c.b
			if turned {
				x, y = y, x
			}
			if got, e := pass.Join(x, y); e != c.e || !slices.Equal(got, c.want) {
				t.Errorf("%v, %v: %v, %d", x, y, got, e)
			}
		}
	}
}
