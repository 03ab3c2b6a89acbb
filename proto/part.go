package proto

import (
	"towline/api"
	"towline/layout"
	"towline/ledger"
	"towline/shelf"
	"towline/wire"
)

// part is a field of a message: whether there is anything, whether that may be, its bytes, and back.
type part interface {
	zero() bool
	right() bool
	bytes() []byte
	read(r reader)
}

func within(n, lo, hi int) bool { return n >= lo && n <= hi }

// isCount tells whether something is counted so: from 1 on.
func isCount(n int) bool { return within(n, 1, api.MaxIndex) }

func isKey(k api.Key) bool {
	_, e := shelf.Key(shelf.Name(k))
	return e == api.OK
}

func isRequest(q api.Req) bool { return within(q.Client, 0, api.MaxClients-1) && isCount(q.Seq) }

func isRow(x api.Row) bool { return isCount(x.Term) && len(x.Data) <= api.MaxData }

func isRecord(x api.Record) bool {
	return isCount(x.Index) && isCount(x.Epoch) && isCount(x.Ver) && isRequest(x.Req) && shelf.Right(x.Key, x.Value) == api.OK
}

type number struct {
	at   *int
	most int
}

func (p number) zero() bool    { return *p.at == 0 }
func (p number) right() bool   { return within(*p.at, 0, p.most) }
func (p number) bytes() []byte { return numbers(*p.at) }
func (p number) read(r reader) { *p.at = r.number() }

type flag struct{ at *bool }

func (p flag) zero() bool    { return !*p.at }
func (p flag) right() bool   { return true }
func (p flag) bytes() []byte { return wire.PutBool(nil, *p.at) }
func (p flag) read(r reader) { *p.at = r.Bool() }

type request struct{ at *api.Req }

func (p request) zero() bool    { return *p.at == api.Req{} }
func (p request) right() bool   { return isRequest(*p.at) }
func (p request) bytes() []byte { return requestBytes(*p.at) }
func (p request) read(r reader) { *p.at = r.request() }

type key struct{ at *api.Key }

func (p key) zero() bool    { return *p.at == api.Key{} }
func (p key) right() bool   { return isKey(*p.at) }
func (p key) bytes() []byte { return keyBytes(*p.at) }
func (p key) read(r reader) { *p.at = r.key() }

type value struct {
	at    *string
	empty bool // it may be so, too
}

// right asks the shelf, which knows values beside a key alone: any key will do.
func (p value) right() bool {
	if p.zero() {
		return p.empty
	}
	return shelf.Right(api.Key{'k'}, *p.at) == api.OK
}

func (p value) zero() bool    { return *p.at == "" }
func (p value) bytes() []byte { return textBytes(*p.at) }
func (p value) read(r reader) { *p.at = r.text(api.MaxValue) }

type pass struct{ at *[]byte }

func (p pass) zero() bool    { return len(*p.at) == 0 }
func (p pass) right() bool   { return len(*p.at) <= api.MaxText }
func (p pass) bytes() []byte { return wire.PutBytes(nil, *p.at) }
func (p pass) read(r reader) { *p.at = r.Bytes(api.MaxText) }

// list is some items, as many as go with one message.
type list[T any] struct {
	at   *[]T
	may  func(T) bool
	of   func(T) []byte
	next func(reader) T
}

func (p list[T]) right() bool {
	if len(*p.at) > api.MaxBatch {
		return false
	}
	for _, x := range *p.at {
		if !p.may(x) {
			return false
		}
	}
	return true
}

func (p list[T]) zero() bool    { return len(*p.at) == 0 }
func (p list[T]) bytes() []byte { return listBytes(*p.at, p.of) }
func (p list[T]) read(r reader) {
	*p.at = listOf(r, api.MaxBatch, func() T { return p.next(r) })
}

type table struct{ at *api.Table }

func (p table) zero() bool {
	return p.at.Index == 0 && p.at.Epoch == 0 && len(p.at.Cells) == 0 && len(p.at.Done) == 0
}

func (p table) right() bool   { return shelf.Check(*p.at) == api.OK }
func (p table) bytes() []byte { return tableBytes(*p.at) }
func (p table) read(r reader) { *p.at = r.table() }

type chain struct{ at *api.Chain }

func (p chain) zero() bool    { return p.at.Epoch == 0 && len(p.at.Members) == 0 }
func (p chain) right() bool   { return p.zero() || layout.Check(*p.at) == api.OK }
func (p chain) bytes() []byte { return chainBytes(*p.at) }
func (p chain) read(r reader) { *p.at = r.chain() }

type command struct{ at *api.Command }

func (p command) zero() bool  { return *p.at == api.Command{} }
func (p command) right() bool { return ledger.Check(*p.at) == api.OK }

func (p command) bytes() []byte {
	b, _ := ledger.Put(*p.at)
	return wire.PutBytes(nil, b)
}

func (p command) read(r reader) { *p.at, _ = ledger.Get(r.Bytes(api.MaxData)) }
