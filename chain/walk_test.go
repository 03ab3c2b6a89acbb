package chain_test

import (
	"fmt"
	"math/rand/v2"
	"slices"
	"testing"

	"towline/api"
	"towline/pass"
	"towline/shelf"
)

// walker makes messages about what a node is; most may be, and hardly any is one that others would send.
type walker struct {
	*rand.Rand
	*pair
}

var someKeys = []string{"a", "b", "c", "é", "e", "f", "g", "h", "i", "j", "k", "l", "m", "n"}

func (w *walker) key() api.Key {
	return key(someKeys[min(w.IntN(len(someKeys)), w.IntN(len(someKeys)))])
}

// chance is true once in so many times.
func (w *walker) chance(n int) bool { return w.IntN(n) == 0 }

// chain is one by chance, of an epoch, in which a node often stands.
func (w *walker) chain(epoch, node int) api.Chain {
	c := api.Chain{Epoch: epoch}
	site := 0
	for i, n := range w.Perm(6)[:1+w.IntN(4)] {
		c.Members = append(c.Members, api.Member{Node: n, Site: site, Fresh: i > 0 && w.chance(2)})
		site = min(2, site+w.IntN(2))
	}
	if w.IntN(8) > 0 && !slices.ContainsFunc(c.Members, func(m api.Member) bool { return m.Node == node }) {
		c.Members[w.IntN(len(c.Members))].Node = node
	}
	return c
}

// req is a request that is often a new one, and not seldom one that was.
func (w *walker) req() api.Req {
	r := api.Req{Client: w.IntN(4), Seq: 1}
	s := w.p.shelf
	for _, d := range s.Table().Done {
		if d.Client == r.Client {
			r.Seq = d.Seq + 1
		}
	}
	recs, _ := s.Behind(s.Low(), 99)
	for _, x := range recs {
		if x.Req.Client == r.Client {
			r.Seq = x.Req.Seq + 1
		}
	}
	if len(recs) > 0 && w.chance(4) {
		return recs[w.IntN(len(recs))].Req
	}
	return api.Req{Client: r.Client, Seq: max(1, r.Seq+w.IntN(3)-w.IntN(2))}
}

// pass is one of something seen; now and then it is forged.
func (w *walker) pass() []byte {
	var l []api.Seen
	for range w.IntN(3) * w.IntN(4) {
		k := w.key()
		l, _ = pass.See(l, k, max(1, w.p.shelf.Top(k).Ver+w.IntN(3)-1))
	}
	b, _ := pass.Make([]byte(secret), l...)
	if len(b) > 0 && w.chance(15) {
		b[w.IntN(len(b))] ^= 1
	}
	return b
}

// call is a client's message.
func (w *walker) call() api.Msg {
	m := api.Msg{Kind: api.MWrite, Req: w.req(), Key: w.key(), Pass: w.pass(), To: w.p.id}
	m.From = 9 + m.Req.Client
	if w.chance(2) {
		m.Value = fmt.Sprint("v", w.IntN(1000))
		return m
	}
	m.Kind, m.Mode, m.Bound = api.MRead, w.IntN(3), w.IntN(4)
	m.Req.Seq = 1 + w.IntN(20)
	if w.chance(30) {
		m.Mode = 3
	}
	return m
}

// records is some behind an index, of epochs that may rise; a few can't be.
func (w *walker) records(prev int) []api.Record {
	var l []api.Record
	s := w.p.shelf
	own, _ := s.Behind(s.Low(), 99)
	vers := map[api.Key]int{}
	for i := range w.IntN(5) {
		index := prev + 1 + i
		at := slices.IndexFunc(own, func(x api.Record) bool { return x.Index == index })
		if at >= 0 && w.IntN(3) > 0 {
			l = append(l, own[at])
			continue
		}
		k := w.key()
		if vers[k] == 0 {
			vers[k] = w.verAt(k, index-1)
		}
		vers[k]++
		x := api.Record{Index: index, Epoch: max(1, w.p.chain.Epoch-w.IntN(2)*w.IntN(2)), Key: k, Ver: vers[k], Value: fmt.Sprint("r", w.IntN(1000)), Req: w.req()}
		if w.chance(25) {
			x.Ver++
		}
		l = append(l, x)
	}
	return l
}

// verAt is the version of a key by the records up to an index, as far as they are there.
func (w *walker) verAt(k api.Key, index int) int {
	s := w.p.shelf.Clone()
	if s.Commit() > index {
		return s.Clean(k).Ver
	}
	s.Cut(index)
	return s.Top(k).Ver
}

// index is one that is often near the ends of a node's records.
func (w *walker) index() int {
	s := w.p.shelf
	last, _ := s.Last()
	return max(0, []int{last, last, last, s.Commit(), s.Low(), w.IntN(last + 2)}[w.IntN(6)]+w.IntN(2)-w.IntN(2))
}

// along is a message along the chain.
func (w *walker) along() api.Msg {
	s := w.p.shelf
	m := api.Msg{Epoch: w.p.chain.Epoch, To: w.p.id}
	back, next := w.p.beside(-1), w.p.beside(1)
	switch w.IntN(9) {
	case 0, 1, 2, 3:
		m.Kind, m.From, m.Prev, m.Commit = api.MPut, back, w.index(), s.Commit()+w.IntN(2)*w.IntN(2)
		if w.chance(2) {
			m.Prev = s.Commit() + w.IntN(s.Dirty()+1)
		}
		m.Last, _ = s.Epoch(m.Prev)
		m.Recs = w.records(m.Prev)
		m.Index = max(0, m.Prev+len(m.Recs)+w.IntN(3)-w.IntN(3))
		if w.chance(15) {
			m.Last = max(0, m.Last+w.IntN(3)-1)
		}
		if len(m.Recs) > 0 && w.chance(40) {
			m.Recs[w.IntN(len(m.Recs))].Index++
		}
	case 4:
		m.Kind, m.From, m.Table = api.MBase, back, w.table()
		if w.IntN(3) > 0 {
			return w.along()
		}
	case 5:
		m.Kind, m.From, m.Index, m.Yes = api.MHave, next, w.index(), w.IntN(4) > 0
	case 6:
		m.Kind, m.From, m.Commit = api.MAck, next, w.index()
	case 7:
		m.Kind, m.From, m.Nonce, m.Key = api.MAsk, w.IntN(6), w.IntN(9), w.key()
	default:
		m.Kind, m.From, m.Nonce = api.MVer, w.tailOf(), w.p.nonce-w.IntN(3)
		if l := len(w.p.reads); l > 0 {
			r := w.p.reads[w.IntN(l)]
			m.Nonce, m.Ver = r.nonce, max(0, s.Clean(r.key).Ver+w.IntN(3)-w.IntN(2))
		}
		m.Nonce = max(0, m.Nonce)
	}
	if m.From < 0 && w.IntN(8) > 0 {
		return w.along()
	}
	if m.From < 0 || w.chance(40) {
		m.From = w.IntN(13)
	}
	if w.chance(40) {
		m.Epoch = max(0, m.Epoch+w.IntN(3)-1)
	}
	return m
}

func (w *walker) tailOf() int {
	if l := w.p.chain.Members; len(l) > 0 {
		return l[len(l)-1].Node
	}
	return 0
}

// table is one of what a node has up to some index, or a few records more.
func (w *walker) table() api.Table {
	s := w.p.shelf.Clone()
	last, epoch := s.Last()
	switch w.IntN(4) {
	case 0:
		return s.Table()
	case 1:
		s.Settle(s.Commit() + w.IntN(last-s.Commit()+1))
		return s.Whole()
	}
	s.Settle(last)
	s.Fold(last)
	for range w.IntN(7) {
		if x, e := s.Next(max(1, epoch, w.p.chain.Epoch), w.key(), "t", api.Req{Client: w.IntN(4), Seq: last + 50 + w.IntN(50)}); e == api.OK {
			s.Add(x)
		}
	}
	last, _ = s.Last()
	s.Settle(last)
	return s.Whole()
}

// masters is what a master says.
func (w *walker) masters() api.Msg {
	c := w.p.chain
	m := api.Msg{Kind: api.MChain, From: 6 + w.IntN(3), To: w.p.id, Epoch: c.Epoch, Nonce: max(0, w.p.nonce-w.IntN(4)), Chain: copyChain(c)}
	if l := len(w.p.reads); l > 0 && w.IntN(4) > 0 {
		m.Nonce = w.p.reads[w.IntN(l)].nonce
	}
	switch w.IntN(9) {
	case 0:
		m.Chain = w.chain(max(1, w.p.era+w.IntN(3)-w.IntN(2)), w.p.id)
		if w.chance(2) {
			m.Epoch, m.Nonce = 0, 0
		}
	case 2, 3:
		for i := range m.Chain.Members {
			m.Chain.Members[i].Fresh = i > 0 && w.chance(2)
		}
		if w.chance(2) {
			slices.Reverse(m.Chain.Members)
		}
	case 4:
		m.Chain = api.Chain{}
	case 5:
		m.Epoch = max(0, m.Epoch+w.IntN(3)-1)
	case 6:
		m.From = w.IntN(13)
	}
	return m
}

// message is one of any kind; now and then one that can't be, or is for nobody here.
func (w *walker) message() api.Msg {
	var m api.Msg
	switch w.IntN(7) {
	case 0, 1:
		m = w.call()
	case 2:
		m = w.masters()
	default:
		m = w.along()
	}
	if w.chance(150) {
		m.Kind = w.IntN(18)
	}
	if w.chance(150) {
		m.To = w.IntN(14)
	}
	if w.chance(150) {
		m.Index--
	}
	return m
}

// worn is a shelf with some records, of which some are committed, and some in the table.
func worn(r *rand.Rand, epoch int) *shelf.Shelf {
	n := r.IntN(46) - 6
	low := max(0, n-24)
	low += r.IntN(max(1, n-low+1))
	s := shelf.New()
	vers := map[api.Key]int{}
	for i := 1; i <= n; i++ {
		k := key(someKeys[r.IntN(5)])
		vers[k]++
		s.Add(api.Record{Index: i, Epoch: max(1, epoch-n/i), Key: k, Ver: vers[k], Value: fmt.Sprint("w", i), Req: api.Req{Client: r.IntN(4), Seq: i}})
		if i <= low {
			s.Settle(i)
			s.Fold(i)
		}
	}
	last, _ := s.Last()
	s.Settle(s.Low() + r.IntN(last-s.Low()+1))
	return s
}

// P18.1 to P18.4: whatever comes, a node does what the chapter's words say.
func TestForged(t *testing.T) {
	counts := map[string]int{}
	for seed := range uint64(700) {
		r := rand.New(rand.NewPCG(seed, 18))
		era := []int{0, 1, 9, 9, 9, 1<<40 - 3}[r.IntN(6)]
		w := &walker{Rand: r, pair: pairOf(t, r.IntN(6), worn(r, min(era, 9)), era)}
		if r.IntN(8) > 0 {
			w.take(api.Msg{Kind: api.MChain, From: 6, To: w.p.id, Chain: w.chain(era+1, w.p.id)})
		}
		for range 60 {
			if w.chance(8) {
				w.tick()
				continue
			}
			count(counts, w.take(w.message()))
		}
	}
	for name, least := range enough {
		if counts[name] < least {
			t.Errorf("%s: %d", name, counts[name])
		}
	}
}

// enough is how often each thing has to come to count as tried.
var enough = map[string]int{
	"error 130": 1000, "error 150": 100, "error 153": 1000,
	"base": 100, "cut": 80, "cut and recs": 30, "recs": 1000, "fold": 50, "era": 200,
	"done 0": 1000, "done 1": 50, "done 7": 40, "done 100": 100, "done 151": 300, "done 152": 500, "done 153": 200,
	"sends 8": 1000, "sends 9": 500, "sends 10": 50, "sends 11": 2000, "sends 12": 50, "sends 13": 50, "sends 5": 100, "sends 6": 300,
}

// count counts what came to be.
func count(counts map[string]int, f api.Effect) {
	for name, so := range map[string]bool{
		fmt.Sprintf("error %d", f.Err): f.Err != api.OK, "base": f.Base, "cut": f.Cut >= 0, "recs": len(f.Recs) > 0, "fold": f.Fold > 0, "era": f.Era > 0,
		"cut and recs": f.Cut >= 0 && len(f.Recs) > 0,
	} {
		if so {
			counts[name]++
		}
	}
	for _, m := range f.Send {
		counts[fmt.Sprintf("sends %d", m.Kind)]++
		if m.Kind == api.MDone {
			counts[fmt.Sprintf("done %d", m.Err)]++
		}
	}
}
