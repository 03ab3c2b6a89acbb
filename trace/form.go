package trace

import (
	"strconv"
	"strings"

	"towline/api"
	"towline/shelf"
)

// What is read here need not be a text of its kind: anything comes of it then. Whoever reads it tells it again, and finds another text.

func decimal(n int) string { return strconv.Itoa(n) }

func number(s string) int {
	n, _ := strconv.Atoi(s)
	return n
}

// count is a number that is not told, if it is 0.
func count(n int) string {
	if n == 0 {
		return ""
	}
	return decimal(n)
}

func flag(yes bool) string {
	if yes {
		return "1"
	}
	return ""
}

func readFlag(s string) bool { return s == "1" }

const point = "."

// points is texts with a point between each two.
func points(l ...string) string { return strings.Join(l, point) }

// parts is the texts between points, just so many.
func parts(s string, n int) []string {
	l := strings.Split(s, point)
	if len(l) != n {
		return make([]string, n)
	}
	return l
}

const halves = "0123456789abcdef"

// signs is bytes as two signs each, the higher half first.
func signs(b []byte) string {
	var s strings.Builder
	for _, x := range b {
		s.WriteByte(halves[x>>4])
		s.WriteByte(halves[x&15])
	}
	return s.String()
}

func half(sign byte) byte { return byte(max(0, strings.IndexByte(halves, sign))) }

func readSigns(s string) []byte {
	b := make([]byte, len(s)/2)
	for i := range b {
		b[i] = half(s[2*i])<<4 | half(s[2*i+1])
	}
	return b
}

func value(s string) string { return signs([]byte(s)) }

func readValue(s string) string { return string(readSigns(s)) }

func key(k api.Key) string { return value(shelf.Name(k)) }

func readKey(s string) api.Key {
	k, _ := shelf.Key(readValue(s))
	return k
}

func request(q api.Req) string {
	if q == (api.Req{}) {
		return ""
	}
	return points(decimal(q.Client), decimal(q.Seq))
}

func readRequest(s string) api.Req {
	p := parts(s, 2)
	return api.Req{Client: number(p[0]), Seq: number(p[1])}
}

func row(x api.Row) string { return points(decimal(x.Term), signs(x.Data)) }

func readRow(s string) api.Row {
	p := parts(s, 2)
	return api.Row{Term: number(p[0]), Data: readSigns(p[1])}
}

func record(x api.Record) string {
	return points(decimal(x.Index), decimal(x.Epoch), key(x.Key), decimal(x.Ver), value(x.Value), decimal(x.Req.Client), decimal(x.Req.Seq))
}

func readRecord(s string) api.Record {
	p := parts(s, 7)
	q := api.Req{Client: number(p[5]), Seq: number(p[6])}
	return api.Record{Index: number(p[0]), Epoch: number(p[1]), Key: readKey(p[2]), Ver: number(p[3]), Value: readValue(p[4]), Req: q}
}

func cell(c api.Cell) string { return points(key(c.Key), decimal(c.Ver), value(c.Value)) }

func readCell(s string) api.Cell {
	p := parts(s, 3)
	return api.Cell{Key: readKey(p[0]), Ver: number(p[1]), Value: readValue(p[2])}
}

func done(d api.Done) string { return points(decimal(d.Client), decimal(d.Seq), decimal(d.Ver)) }

func readDone(s string) api.Done {
	p := parts(s, 3)
	return api.Done{Client: number(p[0]), Seq: number(p[1]), Ver: number(p[2])}
}

// freshSign stands behind a member that is fresh.
const freshSign = ".f"

func member(m api.Member) string {
	s := points(decimal(m.Node), decimal(m.Site))
	if m.Fresh {
		s += freshSign
	}
	return s
}

func readMember(s string) api.Member {
	s, fresh := strings.CutSuffix(s, freshSign)
	p := parts(s, 2)
	return api.Member{Node: number(p[0]), Site: number(p[1]), Fresh: fresh}
}

func command(c api.Command) string {
	if c == (api.Command{}) {
		return ""
	}
	return points(decimal(c.Kind), decimal(c.Node), decimal(c.Site), decimal(c.Epoch))
}

func readCommand(s string) api.Command {
	p := parts(s, 4)
	return api.Command{Kind: number(p[0]), Node: number(p[1]), Site: number(p[2]), Epoch: number(p[3])}
}
