package pool_test

import (
	"math/rand"
	"slices"
	"testing"

	"thurible/admit"
	"thurible/anchor"
	"thurible/api"
	"thurible/chain"
	"thurible/check"
	"thurible/coins"
	"thurible/oracle"
	"thurible/pool"
	"thurible/recent"
	"thurible/tx"
)

// costs is what x costs, as the document says it.
func costs(x api.Tx) int64 {
	return max(4000, int64(bytes(x)))
}

// weighs is how much x weighs, as the document says it.
func weighs(x pool.Entry) uint64 {
	t := x.T
	actions := max(len(t.Ins), len(t.Outs)) + max(len(t.Nulls), len(t.Notes))
	if x.Fee < 5000*int64(max(2, actions)) {
		return uint64(costs(t)) + 16000
	}
	return uint64(costs(t))
}

// total is what all of l costs.
func total(l []pool.Entry) int64 {
	var all int64
	for _, x := range l {
		all += costs(x.T)
	}
	return all
}

// falls is the Id of that one of l on which a draw falls.
func falls(l []pool.Entry, draw uint64) api.Key {
	s := slices.Clone(l)
	slices.SortStableFunc(s, func(a, b pool.Entry) int { return slices.Compare(a.Id[:], b.Id[:]) })
	var sum uint64
	for _, x := range s {
		sum += weighs(x)
	}
	draw %= sum
	for _, x := range s {
		if draw < weighs(x) {
			return x.Id
		}
		draw -= weighs(x)
	}
	panic("no place")
}

// evict is Evict, as the document says it.
func evict(p pool.Pool, draws []uint64) (pool.Pool, []api.Key) {
	var all []api.Key
	for total(p.L) > 24000 {
		var draw uint64
		if len(draws) > 0 {
			draw, draws = draws[0], draws[1:]
		}
		k := falls(p.L, draw)
		left, gone := drop(p.L, k)
		r := slices.DeleteFunc(slices.Clone(p.R), func(x recent.Item) bool { return x.Id == k })
		r = append(r, recent.Item{Id: k, At: p.Now})
		p, all = pool.Pool{L: left, R: r[max(0, len(r)-5):], Now: p.Now}, append(all, gone...)
	}
	return p, all
}

// submit is Submit, as the document says it.
func submit(p pool.Pool, c chain.Chain, x api.Tx, l []oracle.Verdict, draws []uint64) (pool.Pool, []api.Key, api.Errno) {
	if e := check.Check(x, false); e != api.OK {
		return pool.Pool{}, nil, e
	}
	k, _ := tx.Id(x)
	if slices.Contains(names(p), k) {
		return pool.Pool{}, nil, api.ErrTwice
	}
	for _, y := range p.R {
		if y.Id == k && p.Now < y.At+60 {
			return pool.Pool{}, nil, api.ErrEvict
		}
	}
	w := chain.Start(c)
	for _, y := range p.L {
		u, _, e := chain.Add(w, y.T, goods(y.T))
		if e != api.OK {
			w = chain.Start(c)
			break
		}
		w = u
	}
	_, fee, e := admit.Admit(c, w, x, l)
	if e != api.OK {
		return pool.Pool{}, nil, e
	}
	p.L = append(slices.Clone(p.L), pool.Entry{T: x, Id: k, Fee: fee})
	q, gone := evict(p, draws)
	return q, gone, api.OK
}

// refresh is Refresh, as the document says it.
func refresh(p pool.Pool, c chain.Chain, first []api.Tx) pool.Pool {
	q, w := pool.Pool{R: p.R, Now: p.Now}, chain.Start(c)
	for _, y := range p.L {
		first = append(slices.Clone(first), y.T)
	}
	for _, x := range first {
		k, _ := tx.Id(x)
		if slices.Contains(names(q), k) {
			continue
		}
		if u, fee, e := admit.Admit(c, w, x, goods(x)); e == api.OK {
			q.L, w = append(q.L, pool.Entry{T: x, Id: k, Fee: fee}), u
		}
	}
	return q
}

// P19.2, P19.3: pools of any entries, that need not be what a pool may be.
func TestEvictChance(t *testing.T) {
	r := rand.New(rand.NewSource(193))
	for i := range 1500 {
		n := r.Intn(14)
		if i%300 == 0 {
			n = 100 + r.Intn(200)
		}
		p := pool.Pool{Now: uint64(r.Intn(200))}
		for range n {
			x := named(byte(r.Intn(n + n/8 + 1)))
			if r.Intn(6) == 0 {
				x = sized(t, x.Id[0], r.Intn(6000))
			}
			for r.Intn(3) == 0 {
				x.T.Ins = append(x.T.Ins, api.Point{Tx: key(byte(r.Intn(n))), Index: uint32(r.Intn(5))})
			}
			x.Fee = []int64{-1, 9999, 10000, 14999, 15000, 5000 * int64(r.Intn(90)), api.Max + 1}[r.Intn(7)]
			p.L = append(p.L, x)
		}
		for range r.Intn(6) {
			p.R = recent.Put(p.R, key(byte(r.Intn(n+1))), uint64(r.Intn(200)))
		}
		var draws []uint64
		for range r.Intn(6) {
			draws = append(draws, r.Uint64()>>r.Intn(64))
		}
		want, went := evict(p, draws)
		if q, gone := pool.Evict(p, draws); !slices.Equal(gone, went) || !same(q, want) {
			t.Fatal(i, letters(gone), "want", letters(went))
		}
		if got := pool.Total(p); got != total(p.L) {
			t.Fatal(i, got)
		}
		k := key(byte(r.Intn(n + 1)))
		left, away := drop(p.L, k)
		if q, gone := pool.Drop(p, k); !slices.Equal(gone, away) || !same(q, pool.Pool{L: left, R: p.R, Now: p.Now}) {
			t.Fatal(i, letters(gone), "want", letters(away))
		}
	}
}

// walker goes on by chance.
type walker struct {
	t *testing.T
	r *rand.Rand
	n int
	// All that came, in order, and by Id.
	asked []api.Tx
	seen  map[api.Key]api.Tx
	told  map[api.Errno]int
	// How many went, and how many had to go with another one.
	evicted, followed int
}

// fresh is a key that was not told yet.
func (w *walker) fresh() api.Key {
	w.n++
	return key(1, byte(w.n>>8), byte(w.n))
}

// ask is a transaction by chance that may come to v, if what it makes is not nothing.
func (w *walker) ask(c chain.Chain, v chain.Work) api.Tx {
	var x api.Tx
	var in int64
	for _, i := range w.r.Perm(len(v.Coins)) {
		y := v.Coins[i]
		if coins.Ripe(y, v.Height) && len(x.Ins) < 1+w.r.Intn(2) {
			x.Ins = append(x.Ins, y.At)
			in += y.Out.Value
		}
	}
	if w.r.Intn(3) == 0 {
		root, _ := anchor.Last(c.Ring)
		x.Anchor, x.Nulls = root, []api.Key{w.fresh()}
		if v.Pool > 0 && w.r.Intn(2) == 0 {
			x.Balance = 1 + w.r.Int63n(v.Pool)
			in += x.Balance
		}
	}
	in -= min(in, w.r.Int63n(20000))
	if x.Balance == 0 && w.r.Intn(3) == 0 {
		x.Notes = []api.Key{w.fresh()}
		x.Balance = -w.r.Int63n(1 + in)
		in += x.Balance
	}
	for n := 1 + w.r.Intn(3); n > 0; n-- {
		o := in
		if n > 1 {
			o = w.r.Int63n(1 + in)
		}
		x.Outs = append(x.Outs, outs(o)...)
		in -= o
	}
	if w.r.Intn(4) == 0 {
		x.Expiry = v.Height + uint32(w.r.Intn(8))
	}
	return x
}

// some is something to submit: new, or again, or wrong, or by a view that the pool has left behind.
func (w *walker) some(p pool.Pool, c chain.Chain) api.Tx {
	v, e := admit.View(c, pool.Txs(p))
	if e != api.OK {
		w.t.Fatal("no view", e)
	}
	if w.r.Intn(8) == 0 {
		v = chain.Start(c)
	}
	x := w.ask(c, v)
	switch w.r.Intn(16) {
	case 0:
		if len(w.asked) > 0 {
			x = w.asked[w.r.Intn(len(w.asked))]
		}
	case 1:
		if len(p.R) > 0 {
			x = w.seen[p.R[w.r.Intn(len(p.R))].Id]
		}
	case 2:
		if len(p.L) > 0 {
			x = p.L[w.r.Intn(len(p.L))].T
		}
	case 3:
		x.Outs = append(x.Outs, outs(w.r.Int63n(api.Subsidy))...)
	case 4:
		x.Balance += w.r.Int63n(2*api.Subsidy) - api.Subsidy
	case 5:
		x.Outs, x.Notes, x.Balance = nil, nil, 0
	}
	return x
}

// may holds that p may be with c, and nothing in it spends the same.
func (w *walker) may(p pool.Pool, c chain.Chain) {
	w.t.Helper()
	if _, e := admit.View(c, pool.Txs(p)); e != api.OK {
		w.t.Fatal("no view", e)
	}
	for i, x := range p.L {
		for _, y := range p.L[:i] {
			if x.Id == y.Id || check.Fight(x.T, y.T) {
				w.t.Fatal("two spend the same")
			}
		}
	}
}

// refused holds that what was evicted just now is refused, as long as its time is not over.
func (w *walker) refused(p pool.Pool, c chain.Chain) {
	for _, x := range p.R {
		y := w.seen[x.Id]
		if _, is := pool.Find(p, x.Id); is {
			continue
		}
		for _, later := range []uint64{0, 1, 59, 60} {
			q := p
			q.Now += later
			_, _, e := pool.Submit(q, c, y, goods(y), nil)
			if (e == api.ErrEvict) != (q.Now < x.At+60) {
				w.t.Fatal("evicted at", x.At, "at", q.Now, e)
			}
		}
	}
}

// submits asks with something, and holds the answer against the document's words.
func (w *walker) submits(p pool.Pool, c chain.Chain) pool.Pool {
	x := w.some(p, c)
	l := goods(x)
	if len(l) > 0 && w.r.Intn(20) == 0 {
		l[w.r.Intn(len(l))].Good = false
	}
	draws := []uint64{w.r.Uint64(), uint64(w.r.Intn(100000))}[:w.r.Intn(3)]
	want, went, e2 := submit(p, c, x, l, draws)
	q, gone, e := pool.Submit(p, c, x, l, draws)
	if e != e2 || !slices.Equal(gone, went) || !same(q, want) {
		w.t.Fatal(e, "want", e2)
	}
	if w.told[e]++; e != api.OK {
		return p
	}
	w.asked = append(w.asked, x)
	w.seen[id(w.t, x)] = x
	w.evicted += len(gone)
	if len(gone) > 1 {
		w.followed++
	}
	w.may(q, c)
	if pool.Total(q) > 24000 {
		w.t.Fatal("above the limit")
	}
	w.refused(q, c)
	return q
}

// refreshes is p by c, held against the document's words.
func (w *walker) refreshes(p pool.Pool, c chain.Chain, first []api.Tx) pool.Pool {
	q := pool.Refresh(p, c, first)
	if !same(q, refresh(p, c, first)) {
		w.t.Fatal("Refresh")
	}
	w.may(q, c)
	return q
}

// mined is c with some of the pool behind, and something that the pool doesn't have.
func (w *walker) mined(p pool.Pool, c chain.Chain) chain.Chain {
	v := chain.Start(c)
	var l []api.Tx
	for _, x := range append([]api.Tx{w.ask(c, v)}, pool.Txs(p)...) {
		if u, _, e := chain.Add(v, x, goods(x)); e == api.OK && w.r.Intn(2) == 0 {
			v, l = u, append(l, x)
		}
	}
	return connected(w.t, c, l...)
}

// back is c without some blocks, and what they had.
func (w *walker) back(c chain.Chain) (chain.Chain, []api.Tx) {
	var l []api.Tx
	for range 1 + w.r.Intn(3) {
		d, b, e := chain.Back(c)
		if e != api.OK {
			break
		}
		c, l = d, append(slices.Clone(b.Txs[1:]), l...)
	}
	return c, l
}

// P19.4 to P19.6: submits, blocks and reorgs by chance.
func TestWalk(t *testing.T) {
	told := map[api.Errno]int{}
	evicted, followed := 0, 0
	for seed := range int64(20) {
		w := &walker{t: t, r: rand.New(rand.NewSource(seed)), seen: map[api.Key]api.Tx{}, told: told}
		c, p := grown(t, 9), pool.Pool{}
		for range 90 {
			switch w.r.Intn(12) {
			case 0:
				c = w.mined(p, c)
				p = w.refreshes(p, c, nil)
			case 1:
				d, l := w.back(c)
				c = w.mined(pool.Pool{}, d)
				p = w.refreshes(p, c, l)
				want, went := evict(p, []uint64{9})
				q, gone := pool.Evict(p, []uint64{9})
				if !slices.Equal(gone, went) || !same(q, want) {
					t.Fatal("Evict")
				}
				for _, x := range p.L {
					w.seen[x.Id] = x.T
				}
				p = q
				w.may(p, c)
			case 2:
				p.Now += uint64(w.r.Intn(40))
			default:
				p = w.submits(p, c)
			}
		}
		evicted, followed = evicted+w.evicted, followed+w.followed
	}
	for _, e := range []api.Errno{api.OK, api.ErrTwice, api.ErrEvict, api.ErrEmpty, api.ErrExpiry, api.ErrProof, api.ErrFight, api.ErrInput, api.ErrMoney} {
		if told[e] == 0 {
			t.Error("never told", e)
		}
	}
	if evicted == 0 || followed == 0 {
		t.Error(evicted, followed)
	}
}
