package judge

import (
	"towline/api"
)

// version is one of a key.
type version struct {
	key api.Key
	ver int
}

// book is records, found by what they are known by: of several that are known by the same, the last one.
type book struct {
	byReq     map[api.Req]api.Record
	byVersion map[version]api.Record
}

func bookOf(recs []api.Record) book {
	b := book{byReq: map[api.Req]api.Record{}, byVersion: map[version]api.Record{}}
	for _, r := range recs {
		b.byReq[r.Req] = r
		b.byVersion[version{key: r.Key, ver: r.Ver}] = r
	}
	return b
}

func (b book) has(v version) bool {
	_, there := b.byVersion[v]
	return there
}

// written is the record of a write's request.
func (b book) written(c api.Call) (api.Record, bool) {
	r, there := b.byReq[api.Req{Client: c.Client, Seq: c.Seq}]
	return r, there
}

// op is a call as one to a register; false: it has no place in the one order, or was a read that nobody answered.
func (b book) op(c api.Call) (api.Op, bool) {
	if !counts(c) || !c.Write && !answered(c) {
		return api.Op{}, false
	}
	o := api.Op{Write: c.Write, Value: c.Value, Ver: c.Ver, Began: c.Began, Ended: c.Ended}
	if !answered(c) {
		// What it was told says nothing; whether it was done, the records alone tell.
		r, _ := b.written(c)
		o.Ver, o.Ended = r.Ver, 0
	}
	return o, true
}

// explains tells whether an answered call was told what was committed.
func (b book) explains(c api.Call) bool {
	if c.Write {
		r, there := b.written(c)
		return there && r.Ver == c.Ver && r.Key == c.Key && r.Value == c.Value
	}
	if c.Ver == 0 {
		return c.Value == ""
	}
	r, there := b.byVersion[version{key: c.Key, ver: c.Ver}]
	return there && r.Value == c.Value
}
