package chain

import "towline/api"

// call is a client's request that waits.
type call struct {
	req  api.Req
	key  api.Key
	seen []api.Seen
}

// read is a call that waits until it is fixed what it is told, and then until masters say that the epoch is still the same.
type read struct {
	call
	nonce int
	fixed bool
	ver   int
	value string
}

// fix says what the read is told.
func (r *read) fix(ver int, value string) { r.fixed, r.ver, r.value = true, ver, value }

// reads is those that wait, in order.
type reads struct {
	asked []read
	nonce int // the last one
}

// let lets go those reads of which something is so: these, in order.
func (r *reads) let(so func(read) bool) []read {
	gone, rest := parted(r.asked, so)
	r.asked = rest
	return gone
}

// parted is those of which something is so, and the others, each in order.
func parted[T any](l []T, so func(T) bool) (these, others []T) {
	for _, x := range l {
		if so(x) {
			these = append(these, x)
		} else {
			others = append(others, x)
		}
	}
	return these, others
}
