package template_test

import (
	"bytes"
	"math"
	"math/big"
	"math/rand"
	"slices"
	"testing"

	"thurible/api"
	"thurible/block"
	"thurible/chain"
	"thurible/coins"
	"thurible/pool"
	"thurible/template"
	"thurible/tree"
	"thurible/tx"
)

// due is how many actions of x have to be paid, as the document says it.
func due(x api.Tx) int64 {
	return int64(max(2, max(len(x.Ins), len(x.Outs))+max(len(x.Nulls), len(x.Notes))))
}

// held is a fee, held to what it may be.
func held(fee int64) int64 {
	return min(max(fee, 0), 2100000000000000)
}

// weighs is how much x weighs, as the document says it.
func weighs(x pool.Entry) uint64 {
	should := 5000 * due(x.T)
	n := new(big.Int).Mul(big.NewInt(65536), big.NewInt(min(held(x.Fee), 4*should)))
	return max(1, n.Div(n, big.NewInt(should)).Uint64())
}

// unpaid is how much of x is unpaid, as the document says it.
func unpaid(x pool.Entry) int {
	return int(max(0, due(x.T)-held(x.Fee)/5000))
}

// size is how many bytes x has.
func size(x api.Tx) int {
	s, _ := tx.Encode(x)
	return len(s)
}

// The ways in which an entry may stand.
const (
	left = iota
	waits
	gone
)

// falls is the place of that one of l that is left, on which a draw falls, or -1.
func falls(l []pool.Entry, is []int, draw uint64) int {
	var sum uint64
	for i, x := range l {
		if is[i] == left {
			sum += weighs(x)
		}
	}
	if sum == 0 {
		return -1
	}
	draw %= sum
	for i, x := range l {
		if is[i] != left {
			continue
		}
		if draw < weighs(x) {
			return i
		}
		draw -= weighs(x)
	}
	panic("no place")
}

// pick is Pick, as the document says it: all entries in order, each of which is left, or waits, or is gone.
func pick(c chain.Chain, p pool.Pool, draws []uint64) (l []api.Tx, fees int64) {
	s := slices.Clone(p.L)
	slices.SortStableFunc(s, func(a, b pool.Entry) int { return bytes.Compare(a.Id[:], b.Id[:]) })
	is := make([]int, len(s))
	w, long, sigs, unpaids := chain.Start(c), 161, 0, 0
	for n := 0; ; n++ {
		draw := uint64(0)
		if n < len(draws) {
			draw = draws[n]
		}
		i := falls(s, is, draw)
		if i < 0 {
			return l, w.Fees
		}
		is[i] = gone
		x := s[i]
		u, _, e := chain.Add(w, x.T, goods(x.T))
		if e == api.ErrInput {
			is[i] = waits
		}
		if e != api.OK || len(l) == 29 || long+size(x.T) > 20000 || sigs+len(x.T.Ins) > 60 || unpaids+unpaid(x) > 10 {
			continue
		}
		w, l = u, append(l, x.T)
		long, sigs, unpaids = long+size(x.T), sigs+len(x.T.Ins), unpaids+unpaid(x)
		for j := range is {
			if is[j] == waits {
				is[j] = left
			}
		}
	}
}

// walker makes chains and pools by chance.
type walker struct {
	t *testing.T
	r *rand.Rand
	n int
	// How many Ins, and how many of all else, there may be of a transaction.
	wide, long int
	// How often something was above a limit of transactions, bytes, signatures or unpaid actions, or waited and came.
	above [4]int
	came  int
}

// fresh is a key that was not told yet.
func (w *walker) fresh() api.Key {
	w.n++
	return key(byte(w.r.Intn(256)), byte(w.n>>8), byte(w.n))
}

// few is a number below n, a small one most times.
func (w *walker) few(n int) int {
	return w.r.Intn(1 + w.r.Intn(n))
}

// spend is a transaction by chance that spends of v, behind c, and pays for its actions as a rule.
func (w *walker) spend(c chain.Chain, v chain.Work) api.Tx {
	var x api.Tx
	var in int64
	most := 1 + w.few(w.wide)
	for _, i := range w.r.Perm(len(v.Coins)) {
		if y := v.Coins[i]; coins.Ripe(y, v.Height) && len(x.Ins) < most {
			x.Ins, in = append(x.Ins, y.At), in+y.Out.Value
		}
	}
	if len(x.Ins) == 0 || w.r.Intn(4) == 0 {
		l := c.Ring.L[max(0, len(c.Ring.L)-4):]
		x.Anchor = l[w.r.Intn(len(l))]
		for range 1 + w.few(w.long) {
			x.Nulls = append(x.Nulls, w.fresh())
		}
	}
	if w.r.Intn(2) == 0 {
		for range 1 + w.few(w.long) {
			x.Notes = append(x.Notes, w.fresh())
		}
	}
	x.Outs = make([]api.Out, 1+w.few(w.long))
	if w.r.Intn(4) == 0 {
		x.Expiry = v.Height + uint32(w.r.Intn(8))
	}
	return w.paid(x, in, v.Pool)
}

// paid is x with values, of so much that its Ins are worth, and at most so much out of secret.
func (w *walker) paid(x api.Tx, in, secret int64) api.Tx {
	if len(x.Nulls) > 0 && secret > 0 {
		x.Balance = 1 + w.r.Int63n(min(secret, 200000))
	} else if len(x.Notes) > 0 && w.r.Intn(4) == 0 {
		x.Balance = -w.r.Int63n(1 + in/2)
	}
	in += x.Balance
	fee := 5000 * due(x)
	if w.r.Intn(8) == 0 {
		fee = w.r.Int63n(fee)
	}
	in -= min(in, fee)
	n := int64(len(x.Outs))
	for i := range x.Outs {
		x.Outs[i] = api.Out{Value: in / n, Lock: key(byte(i))}
	}
	return x
}

// walking is a walker that makes small transactions, or great ones.
func walking(t *testing.T, seed int64) *walker {
	w := &walker{t: t, r: rand.New(rand.NewSource(seed))}
	w.wide, w.long = []int{2, 20, 5}[seed%3], []int{3, 3, 39}[seed%3]
	return w
}

// chain is one with many coins, and with something in secret.
func (w *walker) chain() chain.Chain {
	c := grown(w.t, 12)
	if w.long < 10 {
		c, _ = parted(w.t, c, 1, 20+w.r.Intn(20), 120000)
		c, _ = parted(w.t, c, 2, 20+w.r.Intn(20), 50000)
	}
	x := pay(w.t, c, 3, 0)
	x.Outs, x.Notes, x.Balance = nil, []api.Key{w.fresh()}, -api.Subsidy
	return connected(w.t, c, x)
}

// pool is one of n entries, or fewer, that may be with c; few of them have something unpaid.
func (w *walker) pool(c chain.Chain, n int) pool.Pool {
	p, v := pool.Pool{Now: 5}, chain.Start(c)
	for range n {
		x := w.spend(c, v)
		u, fee, e := chain.Add(v, x, goods(x))
		y := pool.Entry{T: x, Id: id(w.t, x), Fee: fee}
		if e == api.OK && (unpaid(y) == 0 || w.r.Intn(8) == 0) {
			v, p.L = u, append(p.L, y)
		}
	}
	return p
}

// draws are some.
func (w *walker) draws() []uint64 {
	var l []uint64
	for range w.r.Intn(80) {
		l = append(l, w.r.Uint64()>>w.r.Intn(64))
	}
	return l
}

// holds fails unless what is picked of p, and what is built of it, are those that the document's words come to.
func (w *walker) holds(c chain.Chain, p pool.Pool, draws []uint64) []api.Tx {
	w.t.Helper()
	want, paid := pick(c, p, draws)
	l, fees := template.Pick(c, p, draws)
	if fees != paid || !same(l, want) {
		w.t.Fatal(len(l), fees, "want", len(want), paid)
	}
	nonce, lock := w.r.Uint32(), w.fresh()
	b, e := template.Build(c, p, lock, nonce, draws)
	var notes []api.Key
	for _, x := range want {
		notes = append(notes, x.Notes...)
	}
	u, full := tree.All(c.Tree, notes)
	made := api.Block{}
	if full == api.OK {
		base := api.Tx{Ins: []api.Point{{Index: c.Height + 1}}, Outs: []api.Out{{Value: 5000000 + paid, Lock: lock}}}
		made = api.Block{Prev: c.Tip, Root: tree.Root(u), Nonce: nonce, Txs: append([]api.Tx{base}, want...)}
	}
	if e != full || !same(b, made) {
		w.t.Fatal("Build", e, full)
	}
	return l
}

// follows holds what holds of what is built of a pool that may be, and is the chain with that behind.
func (w *walker) follows(c chain.Chain, p pool.Pool, draws []uint64) chain.Chain {
	w.t.Helper()
	b, e := template.Build(c, p, key(1), 2, draws)
	if e != api.OK {
		w.t.Fatal(e)
	}
	d, e := chain.Connect(c, b, goods(b.Txs...))
	if e != api.OK {
		w.t.Fatal("Connect", e)
	}
	s, _ := block.Encode(b)
	sigs, unpaids, at := 0, 0, map[api.Key]int{}
	for i, x := range b.Txs[1:] {
		k := id(w.t, x)
		at[k] = i
		sigs += len(x.Ins)
		y, _ := pool.Find(p, k)
		unpaids += unpaid(y)
	}
	if len(b.Txs) > 30 || len(s) > 20000 || sigs > 60 || unpaids > 10 {
		w.t.Fatal("above the limits", len(b.Txs), len(s), sigs, unpaids)
	}
	for i, x := range b.Txs[1:] {
		for _, in := range x.Ins {
			if j, is := at[in.Tx]; is && j >= i {
				w.t.Fatal("a child ahead of its parent")
			} else if is {
				w.came++
			}
		}
	}
	w.full(p, b, len(s), sigs, unpaids)
	return d
}

// full counts what of p was not taken, as it would have been above a limit at last.
func (w *walker) full(p pool.Pool, b api.Block, long, sigs, unpaids int) {
	for _, y := range p.L {
		if slices.ContainsFunc(b.Txs, func(x api.Tx) bool { return tx.Same(x, y.T) }) {
			continue
		}
		for i, is := range [4]bool{len(b.Txs) == 30, long+size(y.T) > 20000, sigs+len(y.T.Ins) > 60, unpaids+unpaid(y) > 10} {
			if is {
				w.above[i]++
			}
		}
	}
}

// P21.2 to P21.4: pools that may be, which are worked off block by block.
func TestWalk(t *testing.T) {
	var above [4]int
	came := 0
	for seed := range int64(60) {
		w := walking(t, seed)
		c := w.chain()
		p := w.pool(c, []int{3, 10, 40, 60}[seed%4])
		for range 3 {
			draws := w.draws()
			w.holds(c, p, draws)
			c = w.follows(c, p, draws)
			p = pool.Refresh(p, c, nil)
		}
		for i := range above {
			above[i] += w.above[i]
		}
		came += w.came
	}
	if slices.Contains(above[:], 0) || came == 0 {
		t.Error(above, came)
	}
}

// odd is p with what a pool that may be has not.
func (w *walker) odd(c chain.Chain, p pool.Pool) pool.Pool {
	q := pool.Pool{L: slices.Clone(p.L)}
	w.r.Shuffle(len(q.L), func(i, j int) { q.L[i], q.L[j] = q.L[j], q.L[i] })
	for i := range q.L {
		switch w.r.Intn(12) {
		case 0:
			q.L[i].Id = key(byte(w.r.Intn(4)))
		case 1:
			q.L[i].Fee = []int64{math.MinInt64, -1, 0, 1, 4999, 5000, 9999, 10000, api.Max, math.MaxInt64}[w.r.Intn(10)]
		case 2:
			q.L[i].T = w.spend(c, chain.Start(c))
		case 3:
			q.L = append(q.L, q.L[w.r.Intn(len(q.L))])
		case 4:
			q.L[i].T.Balance += int64(w.r.Intn(3) - 1)
		case 5:
			q.L[i].T = []api.Tx{{}, {Anchor: key(1)}, {Notes: make([]api.Key, 50)}, template.Base(3, key(1), 4)}[w.r.Intn(4)]
		}
	}
	return q
}

// R1, P21.2, P21.3: pools that need not be what a pool may be, and chains that no blocks come to.
func TestOdd(t *testing.T) {
	n := 0
	for seed := range int64(60) {
		w := walking(t, 1000+seed)
		c := w.chain()
		p := w.odd(c, w.pool(c, []int{3, 10, 40, 60}[seed%4]))
		n += len(w.holds(c, p, w.draws()))
		w.holds(chain.Chain{}, p, w.draws())
		d := c
		d.Height, d.Tree.Count = math.MaxUint32, math.MaxUint32-uint32(w.r.Intn(9))
		n += len(w.holds(d, p, w.draws()))
		d.Height, d.Pool = c.Height+3, -5
		d.Coins = append(slices.Clone(c.Coins), c.Coins...)
		w.r.Shuffle(len(d.Coins), func(i, j int) { d.Coins[i], d.Coins[j] = d.Coins[j], d.Coins[i] })
		n += len(w.holds(d, p, w.draws()))
	}
	if n < 500 {
		t.Error(n)
	}
}

// R3, R5: nothing that is handed in is changed or kept, and no two lists of an answer meet.
func TestMemory(t *testing.T) {
	kept(t, "Base", nil, func([]any) []any {
		return []any{template.Base(1, key(1), 2), template.Base(1, key(1), 2)}
	})
	for seed := range int64(12) {
		w := walking(t, 2000+seed)
		c := w.chain()
		p := w.pool(c, 20)
		if seed%2 > 0 {
			p = w.odd(c, p)
		}
		full := c
		full.Tree.Count = math.MaxUint32
		for _, c := range []chain.Chain{c, full, {}} {
			for _, p := range []pool.Pool{p, of(), {}} {
				draws := w.draws()
				kept(t, "Pick", []any{c, p, draws}, func(a []any) []any {
					l, fees := template.Pick(a[0].(chain.Chain), a[1].(pool.Pool), a[2].([]uint64))
					return []any{l, fees}
				})
				kept(t, "Build", []any{c, p, draws}, func(a []any) []any {
					b, e := template.Build(a[0].(chain.Chain), a[1].(pool.Pool), key(1), 2, a[2].([]uint64))
					return []any{b, e}
				})
			}
		}
	}
}
