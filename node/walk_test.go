package node_test

import (
	"math/rand"
	"slices"
	"testing"

	"thurible/admit"
	"thurible/api"
	"thurible/block"
	"thurible/chain"
	"thurible/check"
	"thurible/coins"
	"thurible/node"
	"thurible/oracle"
	"thurible/pool"
	"thurible/recent"
	"thurible/tx"
)

// submit is Submit, as the document says it.
func submit(n node.Node, s string, l []oracle.Verdict, draws []uint64) (node.Node, []api.Key, api.Errno) {
	x, e := tx.Decode(s)
	if e != api.OK {
		return n, nil, e
	}
	p, gone, e := pool.Submit(n.P, n.C, x, l, draws)
	if e != api.OK {
		return n, nil, e
	}
	return node.Node{C: n.C, P: p}, gone, api.OK
}

// connect is Connect, as the document says it.
func connect(n node.Node, s string, l []oracle.Verdict) (node.Node, api.Errno) {
	b, e := block.Decode(s)
	if e != api.OK {
		return n, e
	}
	c, e := chain.Connect(n.C, b, l)
	if e != api.OK {
		return n, e
	}
	return node.Node{C: c, P: pool.Refresh(n.P, c, nil)}, api.OK
}

// reorg is Reorg, as the document says it, block by block.
func reorg(n node.Node, depth int, bs []string, l []oracle.Verdict, draws []uint64) (node.Node, []api.Key, api.Errno) {
	var up []api.Block
	for _, s := range bs {
		b, e := block.Decode(s)
		if e != api.OK {
			return n, nil, e
		}
		up = append(up, b)
	}
	if depth < 0 {
		return n, nil, api.ErrArg
	}
	c := n.C
	var first []api.Tx
	for range depth {
		low, b, e := chain.Back(c)
		if e != api.OK {
			return n, nil, e
		}
		c = low
		var l []api.Tx
		for _, x := range b.Txs {
			if len(x.Ins) != 1 || x.Ins[0].Tx != key() {
				l = append(l, x)
			}
		}
		first = append(l, first...)
	}
	for _, b := range up {
		d, e := chain.Connect(c, b, l)
		if e != api.OK {
			return n, nil, e
		}
		c = d
	}
	p, gone := pool.Evict(pool.Refresh(n.P, c, first), draws)
	return node.Node{C: c, P: p}, gone, api.OK
}

// walker goes on by chance.
type walker struct {
	t *testing.T
	r *rand.Rand
	// How many keys were told.
	n int
	// The bytes of all that was asked for, and verdicts on all that there is.
	asked []string
	good  []oracle.Verdict
	// All blocks of the chain.
	line []api.Block
	told map[string]map[api.Errno]int
	// How often a reorg evicted something, and how much of what was taken back waited again.
	evicted, again int
}

// fresh is a key that was not told yet.
func (w *walker) fresh() api.Key {
	w.n++
	return key(1, byte(w.n>>8), byte(w.n))
}

// spend is a transaction by chance that may come to v, behind c.
func (w *walker) spend(c chain.Chain, v chain.Work) api.Tx {
	var x api.Tx
	var in int64
	for _, i := range w.r.Perm(len(v.Coins)) {
		if y := v.Coins[i]; coins.Ripe(y, v.Height) && len(x.Ins) < 1+w.r.Intn(2) {
			x.Ins, in = append(x.Ins, y.At), in+y.Out.Value
		}
	}
	if len(x.Ins) == 0 || w.r.Intn(3) == 0 {
		l := c.Ring.L[max(0, len(c.Ring.L)-4):]
		x.Anchor = l[w.r.Intn(len(l))]
		x.Nulls = []api.Key{w.fresh()}
		if v.Pool > 0 && w.r.Intn(2) == 0 {
			x.Balance = 1 + w.r.Int63n(v.Pool)
			in += x.Balance
		}
	}
	in -= min(in, w.r.Int63n(20000))
	if x.Balance == 0 && w.r.Intn(2) == 0 {
		x.Notes = []api.Key{w.fresh()}
		x.Balance = -w.r.Int63n(1 + in)
		in += x.Balance
	}
	half := w.r.Int63n(1 + in)
	x.Outs = outs(half, in-half)
	if w.r.Intn(4) == 0 {
		x.Expiry = v.Height + uint32(w.r.Intn(8))
	}
	w.good = append(goods(x), w.good...)
	return x
}

// view is the work of the next block with all that waits at n, which may be.
func (w *walker) view(n node.Node) chain.Work {
	w.t.Helper()
	v, e := admit.View(n.C, pool.Txs(n.P))
	if e != api.OK {
		w.t.Fatal("no view", e)
	}
	return v
}

// worn is s, or something like it.
func (w *walker) worn(s string) string {
	i := w.r.Intn(len(s))
	switch w.r.Intn(20) {
	case 0:
		return s[:i]
	case 1:
		return s + s[i:]
	case 2:
		return s[:i] + string([]byte{byte(w.r.Intn(256))}) + s[i+1:]
	}
	return s
}

// block is one behind c, of what waits at n, and of other things.
func (w *walker) block(n node.Node, c chain.Chain) api.Block {
	v := chain.Start(c)
	var l []api.Tx
	add := func(x api.Tx) {
		if u, _, e := chain.Add(v, x, w.good); e == api.OK && w.r.Intn(2) == 0 {
			v, l = u, append(l, x)
		}
	}
	for _, x := range pool.Txs(n.P) {
		add(x)
	}
	for range 3 {
		add(w.spend(c, v))
	}
	b := next(w.t, c, l...)
	b.Nonce = uint32(w.r.Intn(1000))
	return b
}

// draws are some.
func (w *walker) draws() []uint64 {
	return []uint64{w.r.Uint64(), uint64(w.r.Intn(50000)), 7}[:w.r.Intn(4)]
}

// holds counts an error, and fails unless the answer is the one that the document's words come to.
func (w *walker) holds(call string, m, want node.Node, gone, went []api.Key, e, asked api.Errno) {
	w.t.Helper()
	if e != asked || !slices.Equal(gone, went) || !same(m, want) {
		w.t.Fatal(call, e, "want", asked, len(gone), "went, want", len(went))
	}
	if w.told[call] == nil {
		w.told[call] = map[api.Errno]int{}
	}
	w.told[call][e]++
}

// submits asks n with something.
func (w *walker) submits(n node.Node) node.Node {
	s := says(w.t, w.spend(n.C, w.view(n)))
	if w.r.Intn(6) == 0 && len(w.asked) > 0 {
		s = w.asked[w.r.Intn(len(w.asked))]
	}
	w.asked = append(w.asked, s)
	s = w.worn(s)
	d := w.draws()
	want, went, asked := submit(n, s, w.good, d)
	m, gone, e := node.Submit(n, s, w.good, d)
	w.holds("Submit", m, want, gone, went, e, asked)
	return m
}

// connects puts a block behind n, or one that belongs behind another one.
func (w *walker) connects(n node.Node) node.Node {
	c := n.C
	if low, _, e := chain.Back(c); e == api.OK && w.r.Intn(8) == 0 {
		c = low
	}
	b := w.block(n, c)
	s := w.worn(reads(w.t, b))
	want, asked := connect(n, s, w.good)
	m, e := node.Connect(n, s, w.good)
	w.holds("Connect", m, want, nil, nil, e, asked)
	if e == api.OK {
		b, _ = block.Decode(s)
		w.line = append(w.line, b)
	}
	return m
}

// reorgs takes blocks of n back, and puts others behind.
func (w *walker) reorgs(n node.Node) node.Node {
	depth := w.r.Intn(7) - 1
	c := n.C
	for range depth {
		if low, _, e := chain.Back(c); e == api.OK {
			c = low
		}
	}
	var up []api.Block
	var bs []string
	for range w.r.Intn(4) {
		b := w.block(n, c)
		c, _ = chain.Connect(c, b, w.good)
		up, bs = append(up, b), append(bs, w.worn(reads(w.t, b)))
	}
	d := w.draws()
	want, went, asked := reorg(n, depth, bs, w.good, d)
	m, gone, e := node.Reorg(n, depth, bs, w.good, d)
	w.holds("Reorg", m, want, gone, went, e, asked)
	if e != api.OK {
		return m
	}
	lost := w.line[len(w.line)-depth:]
	w.line = w.line[:len(w.line)-depth]
	for _, s := range bs {
		b, _ := block.Decode(s)
		w.line = append(w.line, b)
	}
	w.waits(m, lost, gone)
	if len(gone) > 0 {
		w.evicted++
	}
	return m
}

// waits holds that what was taken back, and is good by what n has, waits again, if nothing was evicted.
func (w *walker) waits(n node.Node, lost []api.Block, gone []api.Key) {
	v := w.view(n)
	for _, b := range lost {
		for _, x := range b.Txs[1:] {
			if _, is := pool.Find(n.P, id(w.t, x)); is {
				w.again++
				continue
			}
			if _, _, e := admit.Admit(n.C, v, x, goods(x)); e == api.OK && len(gone) == 0 {
				w.t.Fatal("is good, and does not wait")
			}
		}
	}
}

// right holds what holds of each node.
func (w *walker) right(n node.Node) {
	w.view(n)
	spent := map[api.Key]struct{}{}
	all := slices.Clone(n.C.Nulls)
	for i, x := range n.P.L {
		all = append(all, x.T.Nulls...)
		for _, y := range n.P.L[:i] {
			if x.Id == y.Id || check.Fight(x.T, y.T) {
				w.t.Fatal("two spend the same")
			}
		}
		if end := x.T.Expiry; end != 0 && n.C.Height+1+3 > end {
			w.t.Fatal("expires soon")
		}
		l := n.C.Ring.L
		if len(x.T.Nulls) > 0 && !slices.Contains(l[max(0, len(l)-4):], x.T.Anchor) {
			w.t.Fatal("no anchor")
		}
	}
	for _, k := range all {
		if _, is := spent[k]; is {
			w.t.Fatal("spent twice")
		}
		spent[k] = struct{}{}
	}
	money := n.C.Pool
	for _, x := range n.C.Coins {
		money += x.Out.Value
	}
	if money != int64(n.C.Height)*api.Subsidy {
		w.t.Fatal("money", money, n.C.Height)
	}
	if pool.Total(n.P) > api.Limit {
		w.t.Fatal("above the limit")
	}
	chained(w.t, n, chain.Genesis(), w.line...)
}

// P20.5, and P20.2 to P20.4: submits, blocks, reorgs and ticks by chance.
func TestWalk(t *testing.T) {
	told := map[string]map[api.Errno]int{}
	evicted, again := 0, 0
	for seed := range int64(20) {
		w := &walker{t: t, r: rand.New(rand.NewSource(seed)), told: told}
		n := node.New()
		for range 8 {
			w.line = append(w.line, next(t, n.C))
			n = connected(t, n)
		}
		for range 100 {
			switch w.r.Intn(20) {
			case 0, 1:
				n = w.connects(n)
			case 2, 3:
				n = w.reorgs(n)
			case 4:
				n = node.Tick(n, uint64(w.r.Intn(50)))
			default:
				n = w.submits(n)
			}
			w.right(n)
		}
		evicted, again = evicted+w.evicted, again+w.again
	}
	for call, l := range map[string][]api.Errno{
		"Submit":  {api.OK, api.ErrTwice, api.ErrShort, api.ErrMore, api.ErrEvict, api.ErrExpiry, api.ErrProof, api.ErrInput},
		"Connect": {api.OK, api.ErrShort, api.ErrMore, api.ErrPrev},
		"Reorg":   {api.OK, api.ErrArg, api.ErrDeep, api.ErrShort, api.ErrMore},
	} {
		for _, e := range l {
			if told[call][e] == 0 {
				t.Error(call, "never told", e)
			}
		}
	}
	if evicted == 0 || again == 0 {
		t.Error(evicted, again)
	}
}

// odd are nodes that no calls come to.
func odd(t *testing.T) []node.Node {
	n := rich(grown(t, 6))
	a := pay(t, n, 1, 10000)
	full := connected(t, submitted(t, n, pay(t, n, 2, 0)), a)
	deep := full
	deep.C.Past = append(slices.Clone(full.C.Past), chain.Step{Before: full.C}, chain.Step{Block: api.Block{Txs: []api.Tx{a, {}, base(3, 1), {Notes: make([]api.Key, 50)}}}, Before: full.C})
	over := n
	for k := range byte(9) {
		over.P.L = append(over.P.L, pool.Entry{T: child(t, a, int64(k)), Id: key(k % 5), Fee: -1})
	}
	over.P.L = append(over.P.L, pool.Entry{}, pool.Entry{T: api.Tx{Anchor: key(1)}}, pool.Entry{T: a})
	high := n
	high.C.Height, high.C.Pool, high.C.Tree.Count = 1<<32-1, -5, 1<<32-1
	empty := node.Node{P: pool.Pool{L: []pool.Entry{}, R: []recent.Item{}}}
	return []node.Node{{}, empty, node.New(), n, full, deep, over, high}
}

// R1, R2: of any nodes, too, the answers are those of the document's words.
func TestOdd(t *testing.T) {
	n := rich(grown(t, 6))
	a := pay(t, n, 1, 10000)
	full := connected(t, n, a)
	w := &walker{t: t, told: map[string]map[api.Errno]int{}}
	texts := []string{"", "x", says(t, a), says(t, api.Tx{}), says(t, child(t, a, 5)), reads(t, next(t, n.C, a)), reads(t, next(t, full.C)), reads(t, api.Block{Txs: []api.Tx{base(1, 5)}})}
	for _, x := range odd(t) {
		for _, s := range texts {
			want, went, asked := submit(x, s, goods(a), []uint64{9})
			m, gone, e := node.Submit(x, s, goods(a), []uint64{9})
			w.holds("Submit", m, want, gone, went, e, asked)
			want, asked = connect(x, s, goods(a))
			m, e = node.Connect(x, s, goods(a))
			w.holds("Connect", m, want, nil, nil, e, asked)
		}
		for depth := -1; depth < 8; depth++ {
			for _, bs := range [][]string{nil, {}, texts[5:6], texts[5:7], texts[6:], texts[:1]} {
				want, went, asked := reorg(x, depth, bs, goods(a), []uint64{9, 5})
				m, gone, e := node.Reorg(x, depth, bs, goods(a), []uint64{9, 5})
				w.holds("Reorg", m, want, gone, went, e, asked)
			}
		}
		want := x
		want.P.Now += 3
		w.holds("Tick", node.Tick(x, 3), want, nil, nil, api.OK, api.OK)
	}
}

// R3, R5: nothing that is handed in is changed or kept, and no two lists of an answer meet.
func TestMemory(t *testing.T) {
	n := rich(grown(t, 10))
	a, s := pay(t, n, 1, 10000), secret(t, n, 4)
	two := connected(t, connected(t, n, a, s), pay(t, n, 2, 10000))
	full := submitted(t, two, child(t, a, 5), pay(t, n, 3, 0), pay(t, n, 4, 0), pay(t, n, 5, 0), secret(t, two, 5), pay(t, n, 6, 0))
	x := says(t, pay(t, n, 7, 10000))
	l := goods(a, s, pay(t, n, 7, 10000), child(t, a, 5))
	draws := []uint64{4000, 9}
	up := []string{reads(t, next(t, n.C, a)), reads(t, next(t, full.C, child(t, a, 5)))}
	for _, n := range append(odd(t), full) {
		kept(t, "Tick", []any{n}, func(a []any) []any { return []any{node.Tick(a[0].(node.Node), 9)} })
		for _, s := range []string{"", x} {
			kept(t, "Submit", []any{n, l, draws}, func(a []any) []any {
				m, gone, e := node.Submit(a[0].(node.Node), s, a[1].([]oracle.Verdict), a[2].([]uint64))
				return []any{m, gone, e}
			})
		}
		for _, s := range append(up, "") {
			kept(t, "Connect", []any{n, l}, func(a []any) []any {
				m, e := node.Connect(a[0].(node.Node), s, a[1].([]oracle.Verdict))
				return []any{m, e}
			})
		}
		for depth := range 6 {
			for _, bs := range [][]string{nil, up[:1], up[1:], {up[0], "x"}} {
				kept(t, "Reorg", []any{n, bs, l, draws}, func(a []any) []any {
					m, gone, e := node.Reorg(a[0].(node.Node), depth, a[1].([]string), a[2].([]oracle.Verdict), a[3].([]uint64))
					return []any{m, gone, e}
				})
			}
		}
	}
	kept(t, "New", nil, func([]any) []any { return []any{node.New(), node.New()} })
}
