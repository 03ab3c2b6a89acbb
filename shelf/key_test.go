package shelf_test

import (
	"strings"
	"testing"

	"towline/api"
	"towline/shelf"
)

// noKeys is texts that are no keys: too short, too long, with a nought, not UTF-8.
var noKeys = []string{
	"", "abcdefghi", "日本語", strings.Repeat("k", 1000),
	"\x00", "a\x00", "\x00a", "a\x00b", "abcdefg\x00", "\x00bcdefgh", "abcdefgh\x00",
	"\xff", "a\x80", "\xc3", "\xc3\xa9\xc3", "\xed\xa0\x80", "\xc0\x80", "\xf4\x90\x80\x80",
}

// noValues is texts that are no values.
var noValues = []string{
	"", strings.Repeat("v", 25), strings.Repeat("é", 12) + "v", strings.Repeat("v", 1000),
	"\xff", "v\x80", "\xc3", strings.Repeat("v", 23) + "\xc3", "\xed\xa0\x80",
}

// values is texts that are values.
var values = []string{
	"v", "\x00", " ", "\n", "é", "\U0010ffff", strings.Repeat("v", 24), strings.Repeat("é", 12), strings.Repeat("日", 8), "\ufffd", "a\x00b",
}

// P9.1: a key is a text's bytes, noughts behind; its name is the text.
func TestKey(t *testing.T) {
	texts := []string{"é", "日本", "\U0001d11e\U0010ffff", " ", "\n\t", "\x01", "\x7f", "\ufffd", "a b", "ab  "}
	for n := 1; n <= 8; n++ {
		texts = append(texts, "abcdefgh"[:n])
	}
	for _, s := range texts {
		k, e := shelf.Key(s)
		if e != api.OK {
			t.Fatalf("%q: %d", s, e)
		}
		for i, x := range k {
			if i < len(s) && x != s[i] || i >= len(s) && x != 0 {
				t.Errorf("%q: %v", s, k)
			}
		}
		if shelf.Name(k) != s || shelf.Right(k, "v") != api.OK {
			t.Errorf("%q: %q, %d", s, shelf.Name(k), shelf.Right(k, "v"))
		}
	}
	for _, s := range noKeys {
		if k, e := shelf.Key(s); k != (api.Key{}) || e != api.ErrKey {
			t.Errorf("%q: %v, %d", s, k, e)
		}
	}
}

// P9.1: Name is all bytes but the noughts at the end, of what is no key, too.
func TestName(t *testing.T) {
	for _, c := range []struct {
		k    api.Key
		want string
	}{
		{api.Key{}, ""},
		{api.Key{'a'}, "a"},
		{api.Key{0, 'a'}, "\x00a"},
		{api.Key{'a', 0, 'b'}, "a\x00b"},
		{api.Key{255, 128}, "\xff\x80"},
		{api.Key{7: 1}, "\x00\x00\x00\x00\x00\x00\x00\x01"},
		{api.Key{'a', 'b', 'c', 'd', 'e', 'f', 'g', 'h'}, "abcdefgh"},
	} {
		if got := shelf.Name(c.k); got != c.want {
			t.Errorf("%v: %q", c.k, got)
		}
	}
}

// badKeys is what is not the key of its name.
func badKeys() []api.Key {
	return []api.Key{{}, {0, 'a'}, {'a', 0, 'b'}, {7: 'a'}, {255}, {'a', 0xc3}, {0xed, 0xa0, 0x80}}
}

// P9.1: a key and a value.
func TestRight(t *testing.T) {
	for _, v := range values {
		if e := shelf.Right(key("a"), v); e != api.OK {
			t.Errorf("%q: %d", v, e)
		}
		for _, k := range badKeys() {
			if e := shelf.Right(k, v); e != api.ErrKey {
				t.Errorf("%v, %q: %d", k, v, e)
			}
		}
	}
	for _, v := range noValues {
		for _, k := range append(badKeys(), key("a")) {
			if e := shelf.Right(k, v); e != api.ErrKey {
				t.Errorf("%v, %q: %d", k, v, e)
			}
		}
	}
}
