package shelf

import (
	"bytes"
	"strings"
	"unicode/utf8"

	"towline/api"
)

// isText tells whether a text has 1 to so many bytes, and is UTF-8, as all texts are.
func isText(s string, most int) bool {
	return len(s) >= 1 && len(s) <= most && utf8.ValidString(s)
}

// Key is a text as a key: 1 to 8 bytes, none of them 0.
func Key(s string) (api.Key, api.Errno) {
	var k api.Key
	if !isText(s, api.MaxKey) || strings.IndexByte(s, 0) >= 0 {
		return k, api.ErrKey
	}
	copy(k[:], s)
	return k, api.OK
}

// Name is a key's text.
func Name(k api.Key) string { return string(bytes.TrimRight(k[:], "\x00")) }

// Right tells whether a key, and a value, may be.
func Right(k api.Key, value string) api.Errno {
	// A name has all bytes of k but the noughts behind: if it has a key, that is k.
	if _, e := Key(Name(k)); e != api.OK {
		return e
	}
	if !isText(value, api.MaxValue) {
		return api.ErrKey
	}
	return api.OK
}

// compare holds two keys against one another, byte by byte.
func compare(a, b api.Key) int { return bytes.Compare(a[:], b[:]) }

// isRequest tells whether a client may have made a request of that number.
func isRequest(r api.Req) bool {
	return r.Client >= 0 && r.Client < api.MaxClients && r.Seq >= 1 && r.Seq <= api.MaxIndex
}
