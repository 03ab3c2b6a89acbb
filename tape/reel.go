package tape

import (
	"bytes"
	"slices"

	"towline/api"
	"towline/wire"
)

// maxBase leaves room in the first record for two numbers, and for how long the base is.
const maxBase = api.MaxFrame - 16

// reel is a base, and records behind it; of two the one of the greater generation is the newer one.
type reel struct {
	generation int // 0: there is no reel
	base       []byte
	records    [][]byte
}

// load is the reel that a file's bytes begin with, and whether they are nothing else.
func load(b []byte) (reel, bool) {
	l, size := wire.All(b)
	if len(l) == 0 {
		return reel{}, false
	}
	first := wire.Read(l[0])
	generation, saved := first.Within(1, api.MaxIndex), first.Within(0, api.MaxIndex)
	base := first.Bytes(maxBase)
	// Fewer records than were saved: the power went while it was written.
	if first.End() != api.OK || len(l)-1 < saved {
		return reel{}, false
	}
	return reel{generation: generation, base: base, records: l[1:]}, size == len(b)
}

// fits tells whether a base and records are short enough for a reel.
func fits(base []byte, l [][]byte) bool {
	long := func(data []byte) bool { return len(data) > api.MaxFrame }
	return len(base) <= maxBase && !slices.ContainsFunc(l, long)
}

// follow is the reel behind it, with memory of its own; base and records fit.
func (r *reel) follow(base []byte, l [][]byte) reel {
	next := reel{generation: r.generation + 1, base: bytes.Clone(base)}
	for _, data := range l {
		next.records = append(next.records, bytes.Clone(data))
	}
	return next
}

// sealed is its file's bytes. No record is too long for a seal: what is in a reel fits.
func (r *reel) sealed() []byte {
	first := wire.Put(nil, uint64(r.generation), uint64(len(r.records)))
	b, _ := wire.Seal(wire.PutBytes(first, r.base))
	for _, data := range r.records {
		record, _ := wire.Seal(data)
		b = append(b, record...)
	}
	return b
}
