package admit_test

import (
	"math"
	"math/rand"
	"slices"
	"testing"

	"thurible/admit"
	"thurible/anchor"
	"thurible/api"
	"thurible/block"
	"thurible/chain"
	"thurible/check"
	"thurible/coins"
	"thurible/oracle"
	"thurible/tree"
	"thurible/tx"
)

// key is a key that begins by these bytes.
func key(l ...byte) (k api.Key) {
	copy(k[:], l)
	return k
}

// outs are outs of these values, each with a lock of its own.
func outs(values ...int64) []api.Out {
	var l []api.Out
	for i, v := range values {
		l = append(l, api.Out{Value: v, Lock: key(7, byte(i))})
	}
	return l
}

// id is t's; it has one.
func id(t *testing.T, x api.Tx) api.Key {
	t.Helper()
	k, e := tx.Id(x)
	if e != api.OK {
		t.Fatal("Id", e)
	}
	return k
}

// goods is verdicts that all of l is good, told without admit; none on what has no Id.
func goods(l ...api.Tx) []oracle.Verdict {
	var v []oracle.Verdict
	for _, x := range l {
		k, e := tx.Id(x)
		for i := range len(x.Ins) + len(x.Nulls) + len(x.Notes) {
			if e == api.OK {
				v = append(v, oracle.Verdict{Tx: k, Item: i, Good: true})
			}
		}
	}
	return v
}

// base is a coinbase of a height, with one out.
func base(height uint32, value int64) api.Tx {
	return api.Tx{Ins: []api.Point{{Index: height}}, Outs: outs(value)}
}

// next is the block behind c that has these, and claims such fees.
func next(t *testing.T, c chain.Chain, fees int64, l ...api.Tx) api.Block {
	t.Helper()
	b := api.Block{Prev: c.Tip, Txs: append([]api.Tx{base(c.Height+1, api.Subsidy+fees)}, l...)}
	u, e := tree.All(c.Tree, block.Notes(b))
	if e != api.OK {
		t.Fatal("All", e)
	}
	b.Root = tree.Root(u)
	return b
}

// connected is c with b behind, which may be.
func connected(t *testing.T, c chain.Chain, b api.Block) chain.Chain {
	t.Helper()
	d, e := chain.Connect(c, b, goods(b.Txs...))
	if e != api.OK {
		t.Fatal("Connect", e)
	}
	return d
}

// grown is a chain of n blocks of coinbases alone.
func grown(t *testing.T, n int) chain.Chain {
	t.Helper()
	c := chain.Genesis()
	for range n {
		c = connected(t, c, next(t, c, 0))
	}
	return c
}

// coinOf is where the coin is that the coinbase of a height made.
func coinOf(t *testing.T, c chain.Chain, height uint32) api.Point {
	t.Helper()
	for _, x := range c.Coins {
		if x.Base && x.Height == height {
			return x.At
		}
	}
	t.Fatal("no coin of", height)
	return api.Point{}
}

// pay spends the coin of a height, but for a fee.
func pay(t *testing.T, c chain.Chain, height uint32, fee int64) api.Tx {
	t.Helper()
	return api.Tx{Ins: []api.Point{coinOf(t, c, height)}, Outs: outs(api.Subsidy - fee)}
}

// work is a work to which full can be admitted.
func work() chain.Work {
	return chain.Work{
		Height: 20,
		Coins: []coins.Coin{
			{At: api.Point{Tx: key(10), Index: 1}, Out: api.Out{Value: 1000}, Height: 5},
			{At: api.Point{Tx: key(20)}, Out: api.Out{Value: 300}, Height: 17, Base: true},
			{At: api.Point{Tx: key(30)}, Out: api.Out{Value: 7}, Height: 18, Base: true},
		},
		Nulls: []api.Key{key(1), key(5)},
		Ring:  anchor.Ring{L: []api.Key{key(91), key(92), key(93), key(94), key(95)}},
		Pool:  5000, Came: 60, Fees: 8,
	}
}

// under is a chain with which full does not fight where work is the view of it.
func under() chain.Chain {
	w := work()
	return chain.Chain{Height: 19, Coins: w.Coins, Nulls: w.Nulls, Ring: w.Ring, Pool: 5000}
}

// full is a transaction that has all that one can have; its fee is 1300 + 2000 - 2100.
func full() api.Tx {
	return api.Tx{
		Expiry:  23,
		Ins:     []api.Point{{Tx: key(20)}, {Tx: key(10), Index: 1}},
		Outs:    outs(2000, 100),
		Anchor:  key(92),
		Nulls:   []api.Key{key(6), key(2)},
		Notes:   []api.Key{key(66)},
		Balance: 2000,
	}
}

// made is the coins that x makes at a height.
func made(t *testing.T, x api.Tx, height uint32) []coins.Coin {
	t.Helper()
	var l []coins.Coin
	for i, o := range x.Outs {
		l = append(l, coins.Coin{At: api.Point{Tx: id(t, x), Index: uint32(i)}, Out: o, Height: height})
	}
	return l
}

// rising is coins in order.
func rising(l []coins.Coin) []coins.Coin {
	s := slices.Clone(l)
	slices.SortFunc(s, func(a, b coins.Coin) int {
		if coins.Less(a.At, b.At) {
			return -1
		}
		return 1
	})
	return s
}

// without is l without what is at p.
func without(l []coins.Coin, p api.Point) []coins.Coin {
	return slices.DeleteFunc(slices.Clone(l), func(c coins.Coin) bool { return c.At == p })
}

func TestGood(t *testing.T) {
	many := slices.Repeat([]api.Key{key(3)}, 41)
	for i, x := range []struct {
		t     api.Tx
		items int
	}{
		{api.Tx{}, 0},
		{api.Tx{Outs: outs(1, 2, 3)}, 0},
		{api.Tx{Ins: make([]api.Point, 2)}, 2},
		{api.Tx{Nulls: many[:3]}, 3},
		{api.Tx{Notes: many[:4]}, 4},
		{full(), 5},
		{base(7, 5), 1},
		{api.Tx{Ins: make([]api.Point, 40), Outs: make([]api.Out, 40), Nulls: many[:40], Notes: many[:40]}, 120},
		// What may not be has a name all the same, if it can be encoded.
		{api.Tx{Ins: make([]api.Point, 1), Expiry: math.MaxUint32, Balance: math.MinInt64}, 1},
	} {
		want := make([]oracle.Verdict, x.items)
		for n := range want {
			want[n] = oracle.Verdict{Tx: id(t, x.t), Item: n, Good: true}
		}
		if got := admit.Good(x.t); !slices.Equal(got, want) {
			t.Error(i, got)
		}
	}
	for i, x := range []api.Tx{
		{Ins: make([]api.Point, 41)}, {Outs: make([]api.Out, 41), Ins: make([]api.Point, 1)}, {Nulls: many}, {Notes: many},
		{Ins: make([]api.Point, 1), Anchor: key(1)}, {Notes: many[:2], Anchor: key(0, 1)}, {Ins: make([]api.Point, 500)},
	} {
		if got := admit.Good(x); len(got) != 0 {
			t.Error(i, got)
		}
	}
}

func TestView(t *testing.T) {
	c := grown(t, 6)
	p := pay(t, c, 2, 700)
	child := api.Tx{Ins: []api.Point{{Tx: id(t, p)}}, Outs: outs(9)}
	root, _ := anchor.Last(c.Ring)
	secret := api.Tx{Nulls: []api.Key{key(4)}, Anchor: root, Notes: []api.Key{key(5)}}
	other := pay(t, c, 1, 5)
	l := []api.Tx{p, secret, child, other}
	w := chain.Start(c)
	for n := range len(l) + 1 {
		got, e := admit.View(c, l[:n])
		if e != api.OK || !same(got, w) {
			t.Error(n, e)
		}
		if n < len(l) {
			var e api.Errno
			if w, _, e = chain.Add(w, l[n], goods(l[n])); e != api.OK {
				t.Fatal(n, e)
			}
		}
	}
	if w.Height != 7 || w.Fees != 700+(api.Subsidy-700-9)+5 || len(w.Coins) != 6 || !slices.Equal(w.Nulls, secret.Nulls) {
		t.Error(w)
	}
}

// TestViewFirst: the first error is told, and nothing else.
func TestViewFirst(t *testing.T) {
	c := grown(t, 6)
	p, q := pay(t, c, 2, 700), pay(t, c, 1, 0)
	child := api.Tx{Ins: []api.Point{{Tx: id(t, p)}}, Outs: outs(9)}
	again := p
	again.Outs = outs(4)
	root, _ := anchor.Last(c.Ring)
	secret := api.Tx{Nulls: []api.Key{key(4)}, Anchor: root, Notes: []api.Key{key(5)}}
	twice := secret
	twice.Notes = []api.Key{key(6)}
	lost := secret
	lost.Anchor = key(1)
	late, lasts := q, q
	late.Expiry, lasts.Expiry = 6, 7
	wide := q
	wide.Outs = make([]api.Out, 40)
	rich := pay(t, c, 3, -1)
	leaves := api.Tx{Nulls: []api.Key{key(4)}, Anchor: root, Outs: outs(1), Balance: 1}
	long := api.Tx{Ins: make([]api.Point, 41), Outs: outs(1)}
	for i, x := range []struct {
		l    []api.Tx
		want api.Errno
	}{
		{[]api.Tx{child}, api.ErrInput},
		{[]api.Tx{child, p}, api.ErrInput},
		{[]api.Tx{p, again}, api.ErrInput},
		{[]api.Tx{p, p}, api.ErrInput},
		{[]api.Tx{pay(t, c, 5, 10000)}, api.ErrInput},
		{[]api.Tx{secret, twice}, api.ErrSpent},
		{[]api.Tx{lost}, api.ErrAnchor},
		{[]api.Tx{p, {}}, api.ErrEmpty},
		{[]api.Tx{p, long}, api.ErrMany},
		{[]api.Tx{base(7, 1)}, api.ErrCoin},
		{[]api.Tx{rich}, api.ErrMoney},
		{[]api.Tx{leaves}, api.ErrPool},
		{[]api.Tx{late}, api.ErrExpiry},
		{[]api.Tx{late, {}, rich}, api.ErrExpiry},
		{[]api.Tx{p, rich, late}, api.ErrMoney},
		{[]api.Tx{{}, lost, rich}, api.ErrEmpty},
		// A view asks for less than Admit does.
		{[]api.Tx{lasts}, api.OK},
		{[]api.Tx{wide}, api.OK},
	} {
		w, e := admit.View(c, x.l)
		if e != x.want || e != api.OK && !same(w, chain.Work{}) {
			t.Error(i, e, "want", x.want)
		}
	}
	if w, e := admit.View(chain.Chain{}, nil); e != api.OK || !same(w, chain.Work{Height: 1}) {
		t.Error(e, w)
	}
	if w, e := admit.View(chain.Chain{Height: math.MaxUint32}, nil); e != api.OK || w.Height != 0 {
		t.Error(e, w)
	}
}

// lists is all lists of up to n out of l.
func lists[T any](l []T, n int) [][]T {
	all := [][]T{nil}
	from := 0
	for range n {
		to := len(all)
		for _, x := range all[from:to] {
			for _, y := range l {
				all = append(all, append(slices.Clone(x), y))
			}
		}
		from = to
	}
	return all
}

// some is those of l whose bits are set.
func some[T any](l []T, bits int) []T {
	var s []T
	for i, x := range l {
		if bits>>i&1 == 1 {
			s = append(s, x)
		}
	}
	return s
}

// TestFights: coins and nullifiers of all kinds, in lists that rise and in others.
func TestFights(t *testing.T) {
	points := []api.Point{{Tx: key(1)}, {Tx: key(1), Index: 1}, {Tx: key(2)}, {Tx: key(3)}}
	names := []api.Key{key(1), key(1, 1), key(2), key(3)}
	back := func(l []api.Key) []api.Key { s := slices.Clone(l); slices.Reverse(s); return s }
	for in := range 8 {
		for left := range 8 {
			c := chain.Chain{Nulls: some(names, in)}
			w := chain.Work{Nulls: some(names, left)}
			for i, p := range points[:3] {
				if in>>i&1 == 1 {
					c.Coins = append(c.Coins, coins.Coin{At: p, Out: api.Out{Value: 5}})
				}
				if left>>i&1 == 1 {
					// Whose it is, and of how much, says nothing.
					w.Coins = append(w.Coins, coins.Coin{At: p, Height: 3})
				}
			}
			for _, l := range lists([]int{0, 1, 2, 3}, 2) {
				var spends, hides api.Tx
				coin, null := false, false
				for _, i := range l {
					spends.Ins = append(spends.Ins, points[i])
					hides.Nulls = append(hides.Nulls, names[i])
					coin = coin || in>>i&1 == 1 && left>>i&1 == 0
					null = null || in>>i&1 == 0 && left>>i&1 == 1
				}
				if got := admit.Fights(c, w, spends); got != coin {
					t.Errorf("%b %b Ins %v: %v", in, left, l, got)
				}
				if got := admit.Fights(c, w, hides); got != null {
					t.Errorf("%b %b Nulls %v: %v", in, left, l, got)
				}
				both := api.Tx{Ins: spends.Ins, Nulls: hides.Nulls}
				c.Nulls, w.Nulls = back(c.Nulls), back(w.Nulls)
				slices.Reverse(c.Coins)
				slices.Reverse(w.Coins)
				if got := admit.Fights(c, w, both); got != (coin || null) {
					t.Errorf("%b %b both %v: %v", in, left, l, got)
				}
			}
		}
	}
}

func TestFightsEdges(t *testing.T) {
	p, q := api.Point{Tx: key(1)}, api.Point{Tx: key(2), Index: 7}
	at := func(l ...api.Point) []coins.Coin {
		var s []coins.Coin
		for _, x := range l {
			s = append(s, coins.Coin{At: x})
		}
		return s
	}
	keys := func(l ...byte) []api.Key {
		var s []api.Key
		for _, x := range l {
			s = append(s, key(x))
		}
		return s
	}
	many := slices.Repeat(at(q), 300)
	for i, x := range []struct {
		c    chain.Chain
		w    chain.Work
		t    api.Tx
		want bool
	}{
		{chain.Chain{}, chain.Work{}, api.Tx{}, false},
		{chain.Chain{Coins: at(p), Nulls: keys(1)}, chain.Work{}, api.Tx{}, false},
		{chain.Chain{Coins: at(p)}, chain.Work{}, api.Tx{Ins: []api.Point{p}}, true},
		// What was made on the way, and spent again, was never in c.
		{chain.Chain{}, chain.Work{}, api.Tx{Ins: []api.Point{p}}, false},
		{chain.Chain{}, chain.Work{Coins: at(p)}, api.Tx{Ins: []api.Point{p}}, false},
		// The last one of many; more than there may be.
		{chain.Chain{Coins: append(many, at(p)...)}, chain.Work{Coins: many}, api.Tx{Ins: append(slices.Repeat([]api.Point{q}, 200), p)}, true},
		{chain.Chain{Coins: at(p, p)}, chain.Work{Coins: at(p)}, api.Tx{Ins: []api.Point{p, p}}, false},
		{chain.Chain{}, chain.Work{Nulls: keys(1)}, api.Tx{Nulls: keys(1)}, true},
		{chain.Chain{Nulls: keys(1)}, chain.Work{Nulls: keys(1)}, api.Tx{Nulls: keys(1)}, false},
		{chain.Chain{Nulls: keys(1)}, chain.Work{}, api.Tx{Nulls: keys(1)}, false},
		{chain.Chain{Nulls: keys(1)}, chain.Work{Nulls: keys(1, 2)}, api.Tx{Nulls: append(slices.Repeat(keys(1, 3), 90), key(2))}, true},
		// It looks at nothing else: neither Height, nor what may be.
		{chain.Chain{Height: 9, Coins: at(p)}, chain.Work{Height: 4}, api.Tx{Expiry: 1, Ins: []api.Point{q, p}, Balance: -1, Anchor: key(1)}, true},
		// An out, a note and an anchor are nothing that it spends.
		{chain.Chain{Coins: at(p)}, chain.Work{Nulls: keys(1, 2)}, api.Tx{Outs: outs(1), Notes: keys(1), Anchor: key(2)}, false},
	} {
		if got := admit.Fights(x.c, x.w, x.t); got != x.want {
			t.Error(i, got)
		}
	}
}

func TestAdmit(t *testing.T) {
	c, w, x := under(), work(), full()
	want := work()
	want.Coins = rising(append(made(t, x, 20), w.Coins[2]))
	want.Nulls = []api.Key{key(1), key(2), key(5), key(6)}
	want.Pool, want.Fees = 3000, 1208
	got, fee, e := admit.Admit(c, w, x, goods(x))
	if e != api.OK || fee != 1200 || !same(got, want) {
		t.Error(e, fee, got)
	}
	// Into secret, with no fee at all.
	y := api.Tx{Ins: []api.Point{{Tx: key(10), Index: 1}}, Notes: []api.Key{key(1)}, Balance: -1000}
	want = work()
	want.Coins, want.Came = want.Coins[1:], 1060
	if got, fee, e = admit.Admit(c, w, y, goods(y)); e != api.OK || fee != 0 || !same(got, want) {
		t.Error(e, fee, got)
	}
	// Of a coin that is in the view alone, which is no fight.
	c.Coins = nil
	want = work()
	y = api.Tx{Ins: []api.Point{{Tx: key(20)}}, Outs: outs(299)}
	want.Coins = rising(append(made(t, y, 20), want.Coins[0], want.Coins[2]))
	want.Fees = 9
	if got, fee, e = admit.Admit(c, w, y, goods(y)); e != api.OK || fee != 1 || !same(got, want) {
		t.Error(e, fee, got)
	}
}

// fault is something that is wrong with a transaction, or with where it asks to come to, and its error.
type fault struct {
	e  api.Errno
	by func(c *chain.Chain, w *chain.Work, x *api.Tx)
	// Behind all others, when the transaction is what it will be.
	last func(t *testing.T, w *chain.Work, x api.Tx, l *[]oracle.Verdict)
}

// faults is all that may be wrong, in order, with such an expiry.
func faults(expiry uint32) []fault {
	return []fault{
		{e: api.ErrRepeat, by: func(_ *chain.Chain, _ *chain.Work, x *api.Tx) { x.Ins = append(x.Ins, x.Ins[1]) }},
		{e: api.ErrExpiry, by: func(_ *chain.Chain, _ *chain.Work, x *api.Tx) { x.Expiry = expiry }},
		{e: api.ErrProof, last: func(_ *testing.T, _ *chain.Work, _ api.Tx, l *[]oracle.Verdict) { (*l)[len(*l)-1].Good = false }},
		{e: api.ErrFight, by: func(_ *chain.Chain, w *chain.Work, _ *api.Tx) {
			w.Coins = without(w.Coins, api.Point{Tx: key(10), Index: 1})
		}},
		{e: api.ErrFight, by: func(_ *chain.Chain, w *chain.Work, _ *api.Tx) { w.Nulls = []api.Key{key(1), key(5), key(6)} }},
		{e: api.ErrInput, by: func(_ *chain.Chain, w *chain.Work, x *api.Tx) { x.Ins[0].Tx = key(30) }},
		{e: api.ErrTwice, last: func(t *testing.T, w *chain.Work, x api.Tx, _ *[]oracle.Verdict) {
			w.Coins = rising(append(w.Coins, made(t, x, 3)[1]))
		}},
		{e: api.ErrSpent, by: func(_ *chain.Chain, _ *chain.Work, x *api.Tx) { x.Nulls[1] = key(5) }},
		{e: api.ErrAnchor, by: func(_ *chain.Chain, _ *chain.Work, x *api.Tx) { x.Anchor = key(91) }},
		{e: api.ErrMoney, by: func(_ *chain.Chain, w *chain.Work, x *api.Tx) { x.Balance = 799 }},
		{e: api.ErrPool, by: func(_ *chain.Chain, w *chain.Work, _ *api.Tx) { w.Pool = 1 }},
		{e: api.ErrMoney, by: func(_ *chain.Chain, w *chain.Work, _ *api.Tx) { w.Fees = api.Max }},
		{e: api.ErrFee, by: func(_ *chain.Chain, _ *chain.Work, x *api.Tx) { x.Outs = append(x.Outs, make([]api.Out, 7)...) }},
	}
}

// TestAdmitFirst: of all that is wrong the first error is told, of all choices of faults.
func TestAdmitFirst(t *testing.T) {
	for _, expiry := range []uint32{19, 20, 22, 500000000, math.MaxUint32} {
		fs := faults(expiry)
		for bits := range 1 << len(fs) {
			c, w, x := under(), work(), full()
			want := api.OK
			for i, f := range fs {
				if bits>>i&1 == 0 {
					continue
				}
				if want == api.OK {
					want = f.e
				}
				if f.by != nil {
					f.by(&c, &w, &x)
				}
			}
			l := goods(x)
			for i, f := range fs {
				if bits>>i&1 == 1 && f.last != nil {
					f.last(t, &w, x, &l)
				}
			}
			got, fee, e := admit.Admit(c, w, x, l)
			if e != want {
				t.Errorf("%b: %d, want %d", bits, e, want)
			}
			if e != api.OK && (fee != 0 || !same(got, chain.Work{})) {
				t.Errorf("%b: something beside an error", bits)
			}
		}
	}
}

func TestAdmitEdges(t *testing.T) {
	for i, x := range []struct {
		by   func(c *chain.Chain, w *chain.Work, x *api.Tx)
		want api.Errno
	}{
		{func(c *chain.Chain, w *chain.Work, x *api.Tx) {}, api.OK},
		// Three blocks are too few: at 20 what expires at 22 does so soon.
		{func(c *chain.Chain, w *chain.Work, x *api.Tx) { x.Expiry = 0 }, api.OK},
		{func(c *chain.Chain, w *chain.Work, x *api.Tx) { x.Expiry = 1 }, api.ErrExpiry},
		{func(c *chain.Chain, w *chain.Work, x *api.Tx) { x.Expiry = 22 }, api.ErrExpiry},
		{func(c *chain.Chain, w *chain.Work, x *api.Tx) { x.Expiry = 499999999 }, api.OK},
		{func(c *chain.Chain, w *chain.Work, x *api.Tx) { x.Expiry = 500000000 }, api.ErrExpiry},
		{func(c *chain.Chain, w *chain.Work, x *api.Tx) { w.Height = 21 }, api.ErrExpiry},
		{func(c *chain.Chain, w *chain.Work, x *api.Tx) { c.Height = 400 }, api.OK},
		{func(c *chain.Chain, w *chain.Work, x *api.Tx) { w.Height = math.MaxUint32 }, api.ErrExpiry},
		{func(c *chain.Chain, w *chain.Work, x *api.Tx) { w.Height, x.Expiry = math.MaxUint32, 0 }, api.OK},
		{func(c *chain.Chain, w *chain.Work, x *api.Tx) { w.Height, x.Expiry = 499999996, 499999999 }, api.OK},
		{func(c *chain.Chain, w *chain.Work, x *api.Tx) { w.Height, x.Expiry = 499999997, 499999999 }, api.ErrExpiry},
		{func(c *chain.Chain, w *chain.Work, x *api.Tx) { w.Height, x.Expiry = math.MaxUint32, math.MaxUint32 }, api.ErrExpiry},
		{func(c *chain.Chain, w *chain.Work, x *api.Tx) { w.Height, x.Expiry = math.MaxUint32-3, math.MaxUint32 }, api.ErrExpiry},
		// What may not be, by itself.
		{func(c *chain.Chain, w *chain.Work, x *api.Tx) { *x = api.Tx{} }, api.ErrEmpty},
		{func(c *chain.Chain, w *chain.Work, x *api.Tx) { *x = api.Tx{Expiry: math.MaxUint32} }, api.ErrEmpty},
		{func(c *chain.Chain, w *chain.Work, x *api.Tx) { *x = base(20, 5) }, api.ErrCoin},
		{func(c *chain.Chain, w *chain.Work, x *api.Tx) { x.Ins[1].Tx = api.Key{} }, api.ErrCoin},
		{func(c *chain.Chain, w *chain.Work, x *api.Tx) { x.Notes = make([]api.Key, 41) }, api.ErrMany},
		{func(c *chain.Chain, w *chain.Work, x *api.Tx) { x.Nulls = nil }, api.ErrArg},
		{func(c *chain.Chain, w *chain.Work, x *api.Tx) { x.Nulls[0] = x.Nulls[1] }, api.ErrRepeat},
		{func(c *chain.Chain, w *chain.Work, x *api.Tx) { x.Outs[0].Value = -1 }, api.ErrMoney},
		// Who fights, and who comes too late for that.
		{func(c *chain.Chain, w *chain.Work, x *api.Tx) { w.Coins = nil }, api.ErrFight},
		{func(c *chain.Chain, w *chain.Work, x *api.Tx) { c.Coins, w.Coins = nil, nil }, api.ErrInput},
		{func(c *chain.Chain, w *chain.Work, x *api.Tx) { c.Coins = nil }, api.OK},
		{func(c *chain.Chain, w *chain.Work, x *api.Tx) { c.Coins, w.Coins = c.Coins[:1], c.Coins[:1] }, api.ErrInput},
		{func(c *chain.Chain, w *chain.Work, x *api.Tx) { w.Coins = w.Coins[:1] }, api.ErrFight},
		{func(c *chain.Chain, w *chain.Work, x *api.Tx) { x.Ins[0].Tx = key(30) }, api.ErrInput},
		{func(c *chain.Chain, w *chain.Work, x *api.Tx) { x.Nulls[0] = key(1) }, api.ErrSpent},
		{func(c *chain.Chain, w *chain.Work, x *api.Tx) { c.Nulls, x.Nulls[0] = nil, key(1) }, api.ErrFight},
		{func(c *chain.Chain, w *chain.Work, x *api.Tx) { c.Nulls = append(c.Nulls, key(6)) }, api.OK},
		{func(c *chain.Chain, w *chain.Work, x *api.Tx) { x.Anchor = key(96) }, api.ErrAnchor},
		{func(c *chain.Chain, w *chain.Work, x *api.Tx) { c.Ring.L = nil }, api.OK},
		{func(c *chain.Chain, w *chain.Work, x *api.Tx) { w.Ring.L = nil }, api.ErrAnchor},
		{func(c *chain.Chain, w *chain.Work, x *api.Tx) { x.Outs[0].Value = 3200 }, api.OK},
		{func(c *chain.Chain, w *chain.Work, x *api.Tx) { x.Outs[0].Value = 3201 }, api.ErrMoney},
		{func(c *chain.Chain, w *chain.Work, x *api.Tx) { c.Pool, w.Pool = 0, 2000 }, api.OK},
		{func(c *chain.Chain, w *chain.Work, x *api.Tx) { w.Pool = 1999 }, api.ErrPool},
		{func(c *chain.Chain, w *chain.Work, x *api.Tx) { w.Fees = api.Max - 1200 }, api.OK},
		{func(c *chain.Chain, w *chain.Work, x *api.Tx) { w.Fees = api.Max - 1199 }, api.ErrMoney},
	} {
		c, w, y := under(), work(), full()
		x.by(&c, &w, &y)
		if _, _, e := admit.Admit(c, w, y, goods(y)); e != x.want {
			t.Error(i, e, "want", x.want)
		}
	}
}

// TestUnpaid: at most ten actions may be unpaid, by the fee of what spends one coin.
func TestUnpaid(t *testing.T) {
	for i, x := range []struct {
		outs, notes int
		fee         int64
		want        api.Errno
	}{
		{1, 0, 0, api.OK}, {10, 0, 0, api.OK}, {11, 0, 0, api.ErrFee},
		{11, 0, 4999, api.ErrFee}, {11, 0, 5000, api.OK}, {12, 0, 5000, api.ErrFee}, {12, 0, 9999, api.ErrFee}, {12, 0, 10000, api.OK},
		{0, 9, 0, api.OK}, {0, 10, 0, api.ErrFee}, {0, 10, 4999, api.ErrFee}, {0, 10, 5000, api.OK},
		{5, 5, 0, api.OK}, {5, 6, 0, api.ErrFee}, {6, 5, 5000, api.OK},
		{40, 0, 149999, api.ErrFee}, {40, 0, 150000, api.OK},
		{40, 40, 349999, api.ErrFee}, {40, 40, 350000, api.OK}, {40, 40, 2000000, api.OK},
	} {
		const have = 5000000
		at := api.Point{Tx: key(1)}
		c := chain.Chain{Coins: []coins.Coin{{At: at, Out: api.Out{Value: have}}}}
		y := api.Tx{Ins: []api.Point{at}, Outs: make([]api.Out, x.outs), Notes: make([]api.Key, x.notes)}
		if x.notes > 0 {
			y.Balance = x.fee - have
		} else {
			y.Outs[0].Value = have - x.fee
		}
		w, fee, e := admit.Admit(c, chain.Start(c), y, goods(y))
		if e != x.want || e == api.OK && fee != x.fee || e != api.OK && (fee != 0 || !same(w, chain.Work{})) {
			t.Error(i, e, fee)
		}
	}
}

// TestProofs: each of a transaction's items has to be good, by its own name, and by the first one that says of it.
func TestProofs(t *testing.T) {
	c, w, x := under(), work(), full()
	good := goods(x)
	for i := range good {
		for _, by := range []func(v *oracle.Verdict){
			func(v *oracle.Verdict) { v.Good = false },
			func(v *oracle.Verdict) { v.Tx[31]++ },
			func(v *oracle.Verdict) { v.Item = 99 },
		} {
			l := slices.Clone(good)
			by(&l[i])
			if _, _, e := admit.Admit(c, w, x, l); e != api.ErrProof {
				t.Error(i, e)
			}
			if _, _, e := admit.Admit(c, w, x, append(slices.Clone(good), l...)); e != api.OK {
				t.Error(i, "behind a good one", e)
			}
		}
	}
	if _, _, e := admit.Admit(c, w, x, nil); e != api.ErrProof {
		t.Error(e)
	}
	y := full()
	y.Outs[0].Lock[0]++
	if _, _, e := admit.Admit(c, w, y, good); e != api.ErrProof {
		t.Error("by another one's verdicts", e)
	}
}

// TestExamples: those that the document tells of this layer.
func TestExamples(t *testing.T) {
	c := grown(t, 6)
	w, _ := admit.View(c, nil)
	if _, _, e := admit.Admit(c, w, api.Tx{}, nil); e != api.ErrEmpty {
		t.Error("nothing at all", e)
	}
	// A coinbase can be spent three blocks behind it: the view is of the seventh.
	for height, want := range map[uint32]api.Errno{4: api.OK, 5: api.ErrInput, 6: api.ErrInput} {
		x := pay(t, c, height, 10000)
		if _, _, e := admit.Admit(c, w, x, goods(x)); e != want {
			t.Error(height, e)
		}
	}
	root, _ := anchor.Last(c.Ring)
	x := api.Tx{Nulls: []api.Key{key(3)}, Anchor: root, Outs: outs(0)}
	v, fee, e := admit.Admit(c, w, x, goods(x))
	if e != api.OK || fee != 0 {
		t.Error("pays for no action", e)
	}
	y := x
	y.Outs = outs(0, 0)
	if _, _, e := admit.Admit(c, v, y, goods(y)); e != api.ErrFight {
		t.Error("one nullifier", e)
	}
}

// TestSpentAgain: what spends the same as what was admitted fights, if that was c's; if it was made on the way, it is no coin any more.
func TestSpentAgain(t *testing.T) {
	c := grown(t, 6)
	p := pay(t, c, 2, 10000)
	child := api.Tx{Ins: []api.Point{{Tx: id(t, p)}}, Outs: outs(9)}
	w, e := admit.View(c, []api.Tx{p})
	if e != api.OK {
		t.Fatal(e)
	}
	if _, _, e := admit.Admit(c, w, p, goods(p)); e != api.ErrFight {
		t.Error("the same one again", e)
	}
	w, _, e = admit.Admit(c, w, child, goods(child))
	if e != api.OK {
		t.Fatal(e)
	}
	sibling := child
	sibling.Outs = outs(8)
	for _, x := range []api.Tx{child, sibling} {
		if _, _, e := admit.Admit(c, w, x, goods(x)); e != api.ErrInput || admit.Fights(c, w, x) {
			t.Error(e)
		}
	}
	sibling.Ins = append(sibling.Ins, p.Ins...)
	if _, _, e := admit.Admit(c, w, sibling, goods(sibling)); e != api.ErrFight {
		t.Error(e)
	}
}

func TestMemory(t *testing.T) {
	c := grown(t, 6)
	p := pay(t, c, 2, 700)
	root, _ := anchor.Last(c.Ring)
	secret := api.Tx{Nulls: []api.Key{key(4)}, Anchor: root, Notes: []api.Key{key(5)}}
	view := func(a []any) []any {
		w, e := admit.View(a[0].(chain.Chain), a[1].([]api.Tx))
		return []any{w, e}
	}
	admitted := func(a []any) []any {
		w, fee, e := admit.Admit(a[0].(chain.Chain), a[1].(chain.Work), a[2].(api.Tx), a[3].([]oracle.Verdict))
		return []any{w, fee, e}
	}
	fights := func(a []any) []any {
		return []any{admit.Fights(a[0].(chain.Chain), a[1].(chain.Work), a[2].(api.Tx))}
	}
	good := func(a []any) []any { return []any{admit.Good(a[0].(api.Tx))} }
	for _, l := range [][]api.Tx{nil, {p}, {p, secret}, {secret}, {secret, p, {}}, {p, p}} {
		kept(t, "View", []any{c, l}, view)
	}
	w := chain.Start(c)
	for _, x := range []api.Tx{p, secret, {}, pay(t, c, 6, 0), {Ins: make([]api.Point, 300), Nulls: make([]api.Key, 300)}} {
		kept(t, "Admit", []any{c, w, x, goods(x)}, admitted)
		kept(t, "Admit", []any{c, chain.Work{Nulls: secret.Nulls}, x, goods(x)}, admitted)
		kept(t, "Fights", []any{c, w, x}, fights)
		kept(t, "Good", []any{x}, good)
	}
	kept(t, "Admit", []any{under(), work(), full(), goods(full())}, admitted)
	kept(t, "Good", []any{full()}, good)
}

// clauses is what P17.3 says, clause by clause, in numbers without bounds.
func clauses(c chain.Chain, w chain.Work, x api.Tx, l []oracle.Verdict) (chain.Work, int64, api.Errno) {
	fail := func(e api.Errno) (chain.Work, int64, api.Errno) { return chain.Work{}, 0, e }
	if e := check.Check(x, false); e != api.OK {
		return fail(e)
	}
	if x.Expiry > 499999999 || x.Expiry > 0 && int64(w.Height)+3 > int64(x.Expiry) {
		return fail(api.ErrExpiry)
	}
	k, _ := tx.Id(x)
	for i := range len(x.Ins) + len(x.Nulls) + len(x.Notes) {
		n := slices.IndexFunc(l, func(v oracle.Verdict) bool { return v.Tx == k && v.Item == i })
		if n < 0 || !l[n].Good {
			return fail(api.ErrProof)
		}
	}
	if fights(c, w, x) {
		return fail(api.ErrFight)
	}
	u, fee, e := chain.Add(w, x, l)
	if e != api.OK {
		return fail(e)
	}
	actions := max(len(x.Ins), len(x.Outs)) + max(len(x.Nulls), len(x.Notes))
	if int64(max(2, actions))-fee/5000 > 10 {
		return fail(api.ErrFee)
	}
	return u, fee, api.OK
}

// fights is what P17.2 says.
func fights(c chain.Chain, w chain.Work, x api.Tx) bool {
	for _, p := range x.Ins {
		at := func(y coins.Coin) bool { return y.At == p }
		if slices.ContainsFunc(c.Coins, at) && !slices.ContainsFunc(w.Coins, at) {
			return true
		}
	}
	for _, k := range x.Nulls {
		if slices.Contains(w.Nulls, k) && !slices.Contains(c.Nulls, k) {
			return true
		}
	}
	return false
}

// walker asks by chance.
type walker struct {
	t *testing.T
	r *rand.Rand
	n int
}

// fresh is a key that was not told yet.
func (w *walker) fresh() api.Key {
	w.n++
	return key(1, byte(w.n>>8), byte(w.n))
}

// ask is a transaction by chance that may come to v, if what it makes is not nothing.
func (w *walker) ask(c chain.Chain, v chain.Work) api.Tx {
	var x api.Tx
	var in int64
	for _, y := range v.Coins {
		if coins.Ripe(y, v.Height) && w.r.Intn(6) == 0 && len(x.Ins) < 3 {
			x.Ins = append(x.Ins, y.At)
			in += y.Out.Value
		}
	}
	if w.r.Intn(2) == 0 {
		root, _ := anchor.Last(c.Ring)
		x.Anchor, x.Nulls = root, []api.Key{w.fresh()}
		if v.Pool > 0 && w.r.Intn(2) == 0 {
			x.Balance = 1 + w.r.Int63n(v.Pool)
			in += x.Balance
		}
	}
	in -= w.r.Int63n(1 + in/50)
	if x.Balance == 0 && w.r.Intn(2) == 0 {
		x.Notes = []api.Key{w.fresh(), w.fresh()}
		x.Balance = -w.r.Int63n(1 + in)
		in += x.Balance
	}
	for range w.r.Intn(3) {
		o := w.r.Int63n(1 + in)
		x.Outs = append(x.Outs, outs(o)...)
		in -= o
	}
	return x
}

// spoil makes something of x wrong, or just another thing.
func (w *walker) spoil(c chain.Chain, v chain.Work, x api.Tx) api.Tx {
	switch w.r.Intn(9) {
	case 0:
		x.Expiry = v.Height + uint32(w.r.Intn(6))
	case 1:
		x.Expiry = 499999998 + uint32(w.r.Intn(4))
	case 2:
		x.Ins = append(x.Ins, c.Coins[w.r.Intn(len(c.Coins))].At)
	case 3:
		x.Ins = append(x.Ins, api.Point{Tx: w.fresh()})
	case 4:
		if len(v.Nulls) > 0 {
			x.Anchor, x.Nulls = c.Ring.L[w.r.Intn(len(c.Ring.L))], append(x.Nulls, v.Nulls[w.r.Intn(len(v.Nulls))])
		}
	case 5:
		if len(x.Nulls) > 0 {
			x.Anchor = c.Ring.L[w.r.Intn(len(c.Ring.L))]
		}
	case 6:
		x.Outs = append(x.Outs, make([]api.Out, w.r.Intn(16))...)
	case 7:
		x.Outs = append(x.Outs, outs(w.r.Int63n(api.Subsidy))...)
	case 8:
		x.Balance += w.r.Int63n(2*api.Subsidy) - api.Subsidy
	}
	return x
}

// block is a block of what may be added by chance.
func (w *walker) block(c chain.Chain) api.Block {
	v := chain.Start(c)
	var l []api.Tx
	for range w.r.Intn(5) {
		x := w.ask(c, v)
		if u, _, e := chain.Add(v, x, goods(x)); e == api.OK {
			v, l = u, append(l, x)
		}
	}
	return next(w.t, c, v.Fees, l...)
}

// offers asks with something by chance, spoilt or not, holds the answer against the clauses, and tells what came of it.
func (w *walker) offers(c chain.Chain, v chain.Work, told map[api.Errno]int) (chain.Work, api.Tx, api.Errno) {
	x := w.ask(c, v)
	for range w.r.Intn(3) {
		x = w.spoil(c, v, x)
	}
	l := goods(x)
	if len(l) > 0 && w.r.Intn(8) == 0 {
		l[w.r.Intn(len(l))].Good = false
	}
	got, fee, e := admit.Admit(c, v, x, l)
	want, much, e2 := clauses(c, v, x, l)
	if e != e2 || fee != much || !same(got, want) {
		w.t.Fatal(e, "want", e2, fee, much)
	}
	if admit.Fights(c, v, x) != fights(c, v, x) {
		w.t.Fatal("Fights")
	}
	told[e]++
	return got, x, e
}

// TestFollows: what is admitted makes a view with what was admitted ahead of it; what spends the same of the chain's fights then.
func TestFollows(t *testing.T) {
	told := map[api.Errno]int{}
	for seed := range int64(25) {
		w := &walker{t: t, r: rand.New(rand.NewSource(seed))}
		c := chain.Genesis()
		for range 9 {
			c = connected(t, c, w.block(c))
		}
		v, e := admit.View(c, nil)
		if e != api.OK {
			t.Fatal(e)
		}
		var l []api.Tx
		for range 40 {
			u, x, e := w.offers(c, v, told)
			if e != api.OK {
				continue
			}
			v, l = u, append(l, x)
			if all, e := admit.View(c, l); e != api.OK || !same(all, v) {
				t.Fatal(seed, "no view", e)
			}
		}
		for _, x := range l {
			fightsThen(t, c, v, x)
		}
	}
	for _, e := range []api.Errno{api.OK, api.ErrEmpty, api.ErrExpiry, api.ErrProof, api.ErrFight, api.ErrInput, api.ErrSpent, api.ErrAnchor, api.ErrMoney, api.ErrPool, api.ErrFee} {
		if told[e] == 0 {
			t.Error("never told", e)
		}
	}
}

// fightsThen spends each thing that x spent once more: that is a fight, but for coins that were not c's.
func fightsThen(t *testing.T, c chain.Chain, v chain.Work, x api.Tx) {
	t.Helper()
	for _, p := range x.Ins {
		_, is := coins.Find(c.Coins, p)
		again := api.Tx{Ins: []api.Point{p}, Outs: outs(1)}
		if admit.Fights(c, v, again) != is || !check.Fight(x, again) {
			t.Error("a coin again")
		}
		want := api.ErrInput
		if is {
			want = api.ErrFight
		}
		if _, _, e := admit.Admit(c, v, again, admit.Good(again)); e != want {
			t.Error("a coin again", e)
		}
	}
	for _, k := range x.Nulls {
		again := api.Tx{Nulls: []api.Key{k}, Anchor: x.Anchor, Outs: outs(0)}
		if _, _, e := admit.Admit(c, v, again, admit.Good(again)); e != api.ErrFight {
			t.Error("a nullifier again", e)
		}
	}
}
