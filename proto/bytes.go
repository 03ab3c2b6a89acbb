package proto

import (
	"towline/api"
	"towline/shelf"
	"towline/wire"
)

// numbers is numbers as bytes. One below 0 comes out as one far above all limits: neither is a message's.
func numbers(l ...int) []byte {
	var b []byte
	for _, n := range l {
		b = append(b, wire.Put(nil, uint64(n))...)
	}
	return b
}

func textBytes(s string) []byte { return wire.PutBytes(nil, []byte(s)) }

func keyBytes(k api.Key) []byte { return textBytes(shelf.Name(k)) }

func requestBytes(q api.Req) []byte { return numbers(q.Client, q.Seq) }

// listBytes is how many there are, and the bytes of each of them.
func listBytes[T any](l []T, of func(T) []byte) []byte {
	b := numbers(len(l))
	for _, x := range l {
		b = append(b, of(x)...)
	}
	return b
}

func recordBytes(x api.Record) []byte {
	b := append(numbers(x.Index, x.Epoch), keyBytes(x.Key)...)
	b = append(b, numbers(x.Ver)...)
	b = append(b, textBytes(x.Value)...)
	return append(b, requestBytes(x.Req)...)
}

func rowBytes(x api.Row) []byte { return wire.PutBytes(numbers(x.Term), x.Data) }

func cellBytes(c api.Cell) []byte {
	b := append(keyBytes(c.Key), numbers(c.Ver)...)
	return append(b, textBytes(c.Value)...)
}

func doneBytes(d api.Done) []byte { return numbers(d.Client, d.Seq, d.Ver) }

func tableBytes(t api.Table) []byte {
	b := append(numbers(t.Index, t.Epoch), listBytes(t.Cells, cellBytes)...)
	return append(b, listBytes(t.Done, doneBytes)...)
}

func memberBytes(m api.Member) []byte { return wire.PutBool(numbers(m.Node, m.Site), m.Fresh) }

func chainBytes(c api.Chain) []byte {
	return append(numbers(c.Epoch), listBytes(c.Members, memberBytes)...)
}
