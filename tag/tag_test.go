package tag_test

import (
	"bytes"
	"encoding/hex"
	"math/big"
	"math/rand/v2"
	"testing"

	"towline/api"
	"towline/tag"
)

// A key is four words.
var _ = [4]uint32(tag.Key{})

// counted is so many bytes: 0, 1, 2, ..
func counted(n int) []byte {
	b := make([]byte, n)
	for i := range b {
		b[i] = byte(i)
	}
	return b
}

func unhex(t *testing.T, s string) []byte {
	t.Helper()
	b, err := hex.DecodeString(s)
	if err != nil {
		t.Fatal(err)
	}
	return b
}

func digest(t *testing.T, key, data []byte) [16]byte {
	t.Helper()
	d, e := tag.Of(key, data)
	if e != api.OK {
		t.Fatalf("%x, %x: %d", key, data, e)
	}
	return d
}

// P3.1: digests that another program, checked by the published ones of eight rounds, worked out; of keys whose highest bit is 0, and 1.
func TestDigests(t *testing.T) {
	const low, high = "33343d839f389f004fe6982339cf7a41", "808182838485868788898a8b8c8d8e8f"
	for _, c := range []struct {
		key  string
		size int
		want string
	}{
		{low, 0, "411fcb43c2a0eb51c38a0aff42f6e37e"},
		{low, 1, "6720acf946a8359c3dad1a4430737b77"},
		{low, 15, "4bb4cf0363813c284814a7fcea0a0ac4"},
		{low, 16, "a9e2d05d8cac5efb2e393a63f3360c50"},
		{low, 17, "5a6d5f8bf61423206823092206e63996"},
		{low, 31, "b1303d1dca4fd7014cb52e3bb436cdd8"},
		{low, 32, "84279677fa47c6070f2c75dd99a7f5d2"},
		{low, 33, "67b84bd73afb0d2ccde997b6daed5856"},
		{low, 48, "8b746ef37f67348f1bba001e6da47ddd"},
		{low, 64, "bd9edb9f2c551754236075be2bd195f9"},
		{high, 0, "e9a3e993ade5617a8134e899b456ab4f"},
		{high, 15, "446b9e9d4377c778713553fb9f78ba78"},
		{high, 16, "8cc379d678a5261eb5720e0a81690328"},
		{high, 17, "a9e7a9742fc2023966b3c82faad33234"},
		{high, 32, "998e5413b80fd8ff11d7cc4531ed5c7c"},
	} {
		if d := digest(t, unhex(t, c.key), counted(c.size)); hex.EncodeToString(d[:]) != c.want {
			t.Errorf("%d bytes: %x, not %s", c.size, d, c.want)
		}
	}
}

// slow is the digest as the chapter tells it, by numbers of 128 bits without a bound.
func slow(key, data []byte) [16]byte {
	k := number(key)
	end := doubled(k)
	state := k
	for ; len(data) > 16; data = data[16:] {
		state = stirred(new(big.Int).Xor(state, number(data[:16])))
	}
	last := append([]byte{}, data...)
	if len(last) < 16 {
		end = doubled(end)
		last = append(append(last, 1), make([]byte, 15-len(last))...)
	}
	state.Xor(new(big.Int).Xor(state, number(last)), end)
	state = new(big.Int).Xor(stirred(state), end)
	var d [16]byte
	for i, x := range state.FillBytes(make([]byte, 16)) {
		d[15-i] = x
	}
	return d
}

// number is bytes as one number, the lowest first.
func number(b []byte) *big.Int {
	n := new(big.Int)
	for i := len(b) - 1; i >= 0; i-- {
		n.Add(n.Lsh(n, 8), big.NewInt(int64(b[i])))
	}
	return n
}

func doubled(n *big.Int) *big.Int {
	m := new(big.Int).Lsh(n, 1)
	if n.Bit(127) == 1 {
		m.SetBit(m, 128, 0)
		m.Xor(m, big.NewInt(0x87))
	}
	return m
}

func stirred(n *big.Int) *big.Int {
	const whole = 1 << 32
	var v [4]uint64
	for i := range v {
		v[i] = new(big.Int).Rsh(n, uint(32*i)).Uint64() % whole
	}
	turn := func(x uint64, by int) uint64 { return x<<by%whole + x>>(32-by) }
	for range 12 {
		v[0] = (v[0] + v[1]) % whole
		v[2] = (v[2] + v[3]) % whole
		v[1] = turn(v[1], 5) ^ v[0]
		v[3] = turn(v[3], 8) ^ v[2]
		v[0] = (turn(v[0], 16) + v[3]) % whole
		v[2] = (v[2] + v[1]) % whole
		v[1] = turn(v[1], 7) ^ v[2]
		v[3] = turn(v[3], 13) ^ v[0]
		v[2] = turn(v[2], 16)
	}
	out := new(big.Int)
	for i, x := range v {
		out.Add(out, new(big.Int).Lsh(new(big.Int).SetUint64(x), uint(32*i)))
	}
	return out
}

func random(r *rand.Rand, n int) []byte {
	b := make([]byte, n)
	for i := range b {
		b[i] = byte(r.Uint32())
	}
	return b
}

// P3.1: many keys, and data of every length around whole blocks.
func TestOfMany(t *testing.T) {
	r := rand.New(rand.NewPCG(11, 11))
	for size := range 100 {
		for range 10 {
			key, data := random(r, 16), random(r, size)
			if d := digest(t, key, data); d != slow(key, data) {
				t.Fatalf("%x, %x: %x, not %x", key, data, d, slow(key, data))
			}
		}
	}
	for _, key := range [][]byte{bytes.Repeat([]byte{255}, 16), highestBit(), make([]byte, 16)} {
		for _, size := range []int{0, 15, 16, 17, 32} {
			if d := digest(t, key, counted(size)); d != slow(key, counted(size)) {
				t.Errorf("%x, %d bytes: %x", key, size, d)
			}
		}
	}
}

// highestBit is a key of the highest bit alone: doubled it is 87, doubled twice 10e.
func highestBit() []byte {
	b := make([]byte, 16)
	b[15] = 128
	return b
}

// P3.1: the chapter's example: by a key of noughts, of nothing, it is the words 1, 0, 0, 0, stirred.
func TestExample(t *testing.T) {
	want := unhex(t, "7bc92e6ff6a1650895cd4e9eff941d53")
	for _, data := range [][]byte{nil, {}} {
		if d := digest(t, make([]byte, 16), data); !bytes.Equal(d[:], want) {
			t.Errorf("%x", d)
		}
	}
	// A whole block of 1 and noughts looks like nothing that was filled up: by this key both ends are noughts.
	one := append([]byte{1}, make([]byte, 15)...)
	if d := digest(t, make([]byte, 16), one); !bytes.Equal(d[:], want) {
		t.Errorf("%x", d)
	}
	// By another key the ends part them.
	if digest(t, counted(16), nil) == digest(t, counted(16), one) {
		t.Error("a block that was filled up has the end of a whole one")
	}
}

// P3.1: by a key of other than 16 bytes there is none.
func TestWrongKeys(t *testing.T) {
	for _, n := range []int{0, 1, 8, 15, 17, 32, 1000} {
		for _, data := range [][]byte{nil, counted(16), counted(40)} {
			if d, e := tag.Of(counted(n), data); d != [16]byte{} || e != api.ErrArg {
				t.Errorf("Of, a key of %d: %x, %d", n, d, e)
			}
			if s, e := tag.Short(counted(n), data); s != 0 || e != api.ErrArg {
				t.Errorf("Short, a key of %d: %x, %d", n, s, e)
			}
		}
	}
	if d, e := tag.Of(nil, nil); d != [16]byte{} || e != api.ErrArg {
		t.Error(d, e)
	}
	if s, e := tag.Short(nil, nil); s != 0 || e != api.ErrArg {
		t.Error(s, e)
	}
}

// P3.1, P3.3: Short is the first half of Of, the highest byte first.
func TestShort(t *testing.T) {
	if n, e := tag.Short(make([]byte, 16), nil); n != 0x7bc92e6ff6a16508 || e != api.OK {
		t.Errorf("%x, %d", n, e)
	}
	r := rand.New(rand.NewPCG(12, 12))
	for size := range 50 {
		key, data := random(r, 16), random(r, size)
		d := digest(t, key, data)
		want := new(big.Int).SetBytes(d[:8]).Uint64()
		if n, e := tag.Short(key, data); n != want || e != api.OK {
			t.Errorf("%x, %x: %x, %d, not %x", key, data, n, e, want)
		}
	}
}

// P3.1: Same looks at all bytes.
func TestSame(t *testing.T) {
	a := [16]byte(counted(16))
	if !tag.Same(a, a) || !tag.Same([16]byte{}, [16]byte{}) {
		t.Error("the same bytes")
	}
	for i := range a {
		for bit := range 8 {
			b := a
			b[i] ^= 1 << bit
			if tag.Same(a, b) || tag.Same(b, a) {
				t.Errorf("byte %d, bit %d", i, bit)
			}
		}
	}
	// Two bytes that differ alike must not undo one another.
	b := a
	b[3], b[9] = b[3]^4, b[9]^4
	if tag.Same(a, b) {
		t.Error("two bytes")
	}
}

// P3.2: what is handed in stays, the room behind it too; and asked twice the answer is the same.
func TestKept(t *testing.T) {
	room := bytes.Repeat([]byte{77}, 80)
	for _, size := range []int{0, 15, 16, 17, 32} {
		key, data := room[:16], room[20:20+size]
		first := digest(t, key, data)
		n, _ := tag.Short(key, data)
		if bytes.ContainsFunc(room, func(r rune) bool { return r != 77 }) {
			t.Fatalf("%d bytes: the arguments changed: %v", size, room)
		}
		first[0] ^= 1
		again := digest(t, key, data)
		first[0] ^= 1
		if m, _ := tag.Short(key, data); again != first || m != n {
			t.Errorf("%d bytes: asked again it is another one", size)
		}
	}
}
