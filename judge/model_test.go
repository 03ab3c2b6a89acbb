package judge_test

import (
	"math/big"
	"math/rand/v2"
	"slices"
	"strings"

	"towline/api"
	"towline/lin"
)

// The chapter's words, one by one.

func plainAnswered(c api.Call) bool { return c.Ended != 0 && c.Err == api.OK }

func plainCounts(c api.Call) bool {
	if c.Write {
		return true
	}
	return c.Mode == 0 || c.Mode == 1 && c.Bound == 0
}

func plainRight(recs []api.Record) api.Errno {
	for i, r := range recs {
		below := r.Ver == 1
		for j, o := range recs {
			if i != j && (o.Req == r.Req || o.Key == r.Key && o.Ver == r.Ver) {
				return api.ErrJudge
			}
			if r.Ver > 1 && o.Key == r.Key && o.Ver == r.Ver-1 {
				below = true
			}
		}
		if !below {
			return api.ErrJudge
		}
	}
	return api.OK
}

func plainKeys(calls []api.Call) []api.Key {
	var names []string
	for _, c := range calls {
		if s := string(c.Key[:]); !slices.Contains(names, s) {
			names = append(names, s)
		}
	}
	slices.SortFunc(names, strings.Compare)
	var l []api.Key
	for _, s := range names {
		l = append(l, api.Key([]byte(s)))
	}
	return l
}

// plainLast is the last record that is so.
func plainLast(recs []api.Record, so func(api.Record) bool) (api.Record, bool) {
	for _, r := range slices.Backward(recs) {
		if so(r) {
			return r, true
		}
	}
	return api.Record{}, false
}

func plainOf(recs []api.Record, c api.Call) (api.Record, bool) {
	return plainLast(recs, func(r api.Record) bool { return r.Req.Client == c.Client && r.Req.Seq == c.Seq })
}

func plainOps(k api.Key, calls []api.Call, recs []api.Record) []api.Op {
	var l []api.Op
	for _, c := range calls {
		if c.Key != k || !plainCounts(c) || !c.Write && !plainAnswered(c) {
			continue
		}
		o := api.Op{Write: c.Write, Value: c.Value, Ver: c.Ver, Began: c.Began, Ended: c.Ended}
		if c.Write && !plainAnswered(c) {
			r, _ := plainOf(recs, c)
			o.Ended, o.Ver = 0, r.Ver
		}
		l = append(l, o)
	}
	return l
}

func plainStrong(calls []api.Call, recs []api.Record) bool {
	for _, k := range plainKeys(calls) {
		if !lin.Versions(plainOps(k, calls, recs)...) {
			return false
		}
	}
	return true
}

func plainValues(calls []api.Call, recs []api.Record) bool {
	for _, c := range calls {
		if !plainAnswered(c) {
			continue
		}
		if c.Write {
			if r, ok := plainOf(recs, c); !ok || r.Ver != c.Ver || r.Key != c.Key || r.Value != c.Value {
				return false
			}
			continue
		}
		if c.Ver == 0 {
			if c.Value != "" {
				return false
			}
			continue
		}
		if r, ok := plainLast(recs, func(r api.Record) bool { return r.Key == c.Key && r.Ver == c.Ver }); !ok || r.Value != c.Value {
			return false
		}
	}
	return true
}

func plainBounds(calls []api.Call) bool {
	for _, c := range calls {
		if c.Write || c.Mode != 1 || !plainAnswered(c) {
			continue
		}
		newest := 0
		for _, w := range calls {
			if w.Write && plainAnswered(w) && w.Key == c.Key && w.Ended < c.Began {
				newest = max(newest, w.Ver)
			}
		}
		least := new(big.Int).Sub(big.NewInt(int64(newest)), big.NewInt(int64(max(c.Bound, 0))))
		if big.NewInt(int64(c.Ver)).Cmp(least) < 0 {
			return false
		}
	}
	return true
}

func plainSessions(calls []api.Call) bool {
	for _, c := range calls {
		if plainAnswered(c) && !c.Write && c.Mode == 2 && c.Ver < c.Floor {
			return false
		}
	}
	return true
}

func plainAll(calls []api.Call, recs []api.Record) bool {
	return plainRight(recs) == api.OK && plainStrong(calls, recs) && plainValues(calls, recs) && plainBounds(calls) && plainSessions(calls)
}

var keys = []api.Key{{'a'}, {'b'}, {'a', 'b'}, {0xff}, {}}

// honest is calls of four clients, one at a time each, and the records that they made: all is so of them.
func honest(r *rand.Rand, n int) ([]api.Call, []api.Record) {
	var calls []api.Call
	var recs []api.Record
	busy := [4]int{-1, -1, -1, -1} // which of calls is on its way
	var seqs [4]int
	floors := map[int]int{}
	vers := map[int]api.Record{} // by a key's place
	for time := 1; len(calls) < n || busy != [4]int{-1, -1, -1, -1}; time += 1 + r.IntN(2) {
		i := r.IntN(4)
		if busy[i] < 0 {
			if len(calls) >= n {
				continue
			}
			k := r.IntN(3)
			seqs[i]++
			c := api.Call{Client: i, Seq: seqs[i], Write: r.IntN(2) == 0, Key: keys[k], Began: time, Floor: floors[i*10+k]}
			if c.Write {
				c.Value = string(rune('a' + r.IntN(26)))
			} else {
				c.Mode, c.Bound = r.IntN(3), r.IntN(3)
			}
			busy[i] = len(calls)
			calls = append(calls, c)
			continue
		}
		c := &calls[busy[i]]
		busy[i] = -1
		k := slices.Index(keys, c.Key)
		if c.Write {
			if r.IntN(5) > 0 {
				x := api.Record{Index: len(recs) + 1, Epoch: 1, Key: c.Key, Ver: vers[k].Ver + 1, Value: c.Value, Req: api.Req{Client: c.Client, Seq: c.Seq}}
				recs, vers[k] = append(recs, x), x
			}
			if r.IntN(4) == 0 || vers[k].Req != (api.Req{Client: c.Client, Seq: c.Seq}) {
				if r.IntN(2) == 0 {
					c.Ended, c.Err = time, api.ErrFull
				}
				continue
			}
			c.Ver = vers[k].Ver
		} else if r.IntN(5) == 0 {
			continue
		} else {
			c.Ver, c.Value = vers[k].Ver, vers[k].Value
		}
		c.Ended = time
		floors[i*10+k] = max(floors[i*10+k], c.Ver)
	}
	return calls, recs
}
