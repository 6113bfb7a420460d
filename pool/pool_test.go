package pool_test

import (
	"math"
	"slices"
	"testing"

	"thurible/anchor"
	"thurible/api"
	"thurible/block"
	"thurible/chain"
	"thurible/coins"
	"thurible/oracle"
	"thurible/pool"
	"thurible/recent"
	"thurible/tree"
	"thurible/tx"
)

// key is a key that begins by these bytes.
func key(l ...byte) (k api.Key) {
	copy(k[:], l)
	return k
}

// outs are outs of these values, each with a lock of its own.
func outs(values ...int64) []api.Out {
	var l []api.Out
	for i, v := range values {
		l = append(l, api.Out{Value: v, Lock: key(7, byte(i))})
	}
	return l
}

// id is t's; it has one.
func id(t *testing.T, x api.Tx) api.Key {
	t.Helper()
	k, e := tx.Id(x)
	if e != api.OK {
		t.Fatal("Id", e)
	}
	return k
}

// goods is verdicts that all of l is good, told without admit; none on what has no Id.
func goods(l ...api.Tx) []oracle.Verdict {
	var v []oracle.Verdict
	for _, x := range l {
		k, e := tx.Id(x)
		for i := range len(x.Ins) + len(x.Nulls) + len(x.Notes) {
			if e == api.OK {
				v = append(v, oracle.Verdict{Tx: k, Item: i, Good: true})
			}
		}
	}
	return v
}

// next is the block behind c that has these, and claims such fees.
func next(t *testing.T, c chain.Chain, fees int64, l ...api.Tx) api.Block {
	t.Helper()
	base := api.Tx{Ins: []api.Point{{Index: c.Height + 1}}, Outs: outs(api.Subsidy + fees)}
	b := api.Block{Prev: c.Tip, Txs: append([]api.Tx{base}, l...)}
	u, e := tree.All(c.Tree, block.Notes(b))
	if e != api.OK {
		t.Fatal("All", e)
	}
	b.Root = tree.Root(u)
	return b
}

// connected is c with a block of l behind, which may be.
func connected(t *testing.T, c chain.Chain, l ...api.Tx) chain.Chain {
	t.Helper()
	w := chain.Start(c)
	for _, x := range l {
		var e api.Errno
		if w, _, e = chain.Add(w, x, goods(x)); e != api.OK {
			t.Fatal("Add", e)
		}
	}
	d, e := chain.Connect(c, next(t, c, w.Fees, l...), goods(l...))
	if e != api.OK {
		t.Fatal("Connect", e)
	}
	return d
}

// grown is a chain of n blocks of coinbases alone.
func grown(t *testing.T, n int) chain.Chain {
	t.Helper()
	c := chain.Genesis()
	for range n {
		c = connected(t, c)
	}
	return c
}

// coinOf is where the coin is that the coinbase of a height made.
func coinOf(t *testing.T, c chain.Chain, height uint32) api.Point {
	t.Helper()
	for _, x := range c.Coins {
		if x.Base && x.Height == height {
			return x.At
		}
	}
	t.Fatal("no coin of", height)
	return api.Point{}
}

// pay spends the coin of a height, but for a fee.
func pay(t *testing.T, c chain.Chain, height uint32, fee int64) api.Tx {
	t.Helper()
	return api.Tx{Ins: []api.Point{coinOf(t, c, height)}, Outs: outs(api.Subsidy - fee)}
}

// child spends the first out of x, of which this is left.
func child(t *testing.T, x api.Tx, left int64) api.Tx {
	t.Helper()
	return api.Tx{Ins: []api.Point{{Tx: id(t, x)}}, Outs: outs(left)}
}

// secret has such a nullifier, by the last root of c, and a note.
func secret(t *testing.T, c chain.Chain, n byte) api.Tx {
	t.Helper()
	root, is := anchor.Last(c.Ring)
	if !is {
		t.Fatal("no root")
	}
	return api.Tx{Nulls: []api.Key{key(n)}, Anchor: root, Notes: []api.Key{key(n, 1)}}
}

// submitted is p with each of l, none of which evicts anything.
func submitted(t *testing.T, p pool.Pool, c chain.Chain, l ...api.Tx) pool.Pool {
	t.Helper()
	for i, x := range l {
		q, gone, e := pool.Submit(p, c, x, goods(x), nil)
		if e != api.OK || len(gone) != 0 {
			t.Fatal("Submit", i, gone, e)
		}
		p = q
	}
	return p
}

// named is an entry of a name, that spends of others, whatever they are: it has n bytes of its own.
func named(n byte, of ...byte) pool.Entry {
	x := pool.Entry{Id: key(n), Fee: 10000}
	x.T.Outs = outs(int64(n))
	for i, k := range of {
		x.T.Ins = append(x.T.Ins, api.Point{Tx: key(k), Index: uint32(i)})
	}
	return x
}

// of is a pool of these entries.
func of(l ...pool.Entry) pool.Pool {
	return pool.Pool{L: l, R: []recent.Item{{Id: key(90), At: 3}, {Id: key(91), At: 4}}, Now: 100}
}

// names is the Ids of p's entries, in order.
func names(p pool.Pool) []api.Key {
	var l []api.Key
	for _, x := range p.L {
		l = append(l, x.Id)
	}
	return l
}

// letters is the first bytes of keys.
func letters(l []api.Key) []byte {
	var s []byte
	for _, k := range l {
		s = append(s, k[0])
	}
	return s
}

// sized is an entry whose transaction has n bytes, or some thirty-one fewer; it pays what it should.
func sized(t *testing.T, first byte, n int) pool.Entry {
	t.Helper()
	x := pool.Entry{Id: key(first), Fee: api.Max}
	for bytes(x.T) < n && len(x.T.Ins) < api.MaxItem {
		x.T.Ins = append(x.T.Ins, api.Point{Tx: key(first, 1), Index: uint32(len(x.T.Ins))})
	}
	for bytes(x.T) < n && len(x.T.Outs) < api.MaxItem {
		x.T.Outs = append(x.T.Outs, api.Out{})
	}
	for bytes(x.T)+32 <= n && len(x.T.Notes) < api.MaxItem {
		x.T.Notes = append(x.T.Notes, key(first))
	}
	return x
}

// bytes is how many x has, if it can be encoded.
func bytes(x api.Tx) int {
	s, e := tx.Encode(x)
	if e != api.OK {
		return 0
	}
	return len(s)
}

// P19.1: the transactions whole, in order, whatever they are.
func TestTxs(t *testing.T) {
	full := api.Tx{
		Expiry: 3, Ins: []api.Point{{Tx: key(1), Index: 2}}, Outs: outs(4, -5), Anchor: key(6),
		Nulls: []api.Key{key(7)}, Notes: []api.Key{key(8), key(8)}, Balance: math.MinInt64,
	}
	long := api.Tx{Ins: make([]api.Point, 300)}
	for n, want := range [][]api.Tx{nil, {full}, {full, {}}, {{}, full, full}, {long, {Expiry: 9}, full, {Expiry: 9}}} {
		p := of()
		for i, x := range want {
			p.L = append(p.L, pool.Entry{T: x, Id: key(byte(9 - i)), Fee: int64(i)})
		}
		if got := pool.Txs(p); !same(got, want) {
			t.Error(n, got)
		}
	}
}

// P19.1: each costs its bytes, and 4000 at the least, also if it has none.
func TestTotal(t *testing.T) {
	long := pool.Entry{T: api.Tx{Ins: make([]api.Point, 41)}}
	lost := pool.Entry{T: api.Tx{Anchor: key(1)}}
	big := sized(t, 1, 4300)
	n := int64(bytes(big.T))
	if n <= 4000 || n > 4300 {
		t.Fatal(n)
	}
	for i, x := range []struct {
		l    []pool.Entry
		want int64
	}{
		{nil, 0},
		{[]pool.Entry{{}}, 4000},
		{[]pool.Entry{named(1), named(1), named(2)}, 12000},
		{[]pool.Entry{big}, n},
		{[]pool.Entry{big, named(1), big}, 2*n + 4000},
		{[]pool.Entry{long, lost}, 8000},
		{slices.Repeat([]pool.Entry{big, {}}, 300), 300 * (n + 4000)},
		// A fee is no cost, be it what it is.
		{[]pool.Entry{{Fee: api.Max}, {Fee: math.MinInt64}, {Fee: 0}}, 12000},
	} {
		if got := pool.Total(of(x.l...)); got != x.want {
			t.Error(i, got, "want", x.want)
		}
	}
}

// P19.1: the first one, by its name, whatever its transaction's is.
func TestFind(t *testing.T) {
	p := of(named(1), named(2, 1), named(1, 5), pool.Entry{Fee: 7}, named(3))
	p.L[2].Fee, p.L[4].Fee = 77, -4
	for i, n := range []int{0, 1, 3, 4} {
		x, is := pool.Find(p, p.L[n].Id)
		if !is || !same(x, p.L[n]) {
			t.Error(i, x, is)
		}
	}
	none := []api.Key{key(4), key(90), id(t, p.L[0].T)}
	for i := range len(api.Key{}) {
		k := key(3)
		k[i] ^= 128
		none = append(none, k)
	}
	for _, k := range none {
		if x, is := pool.Find(p, k); is || !same(x, pool.Entry{}) {
			t.Error(k, x, is)
		}
	}
	for _, l := range [][]pool.Entry{nil, {}, {named(1)}} {
		if x, is := pool.Find(of(l...), api.Key{}); is || !same(x, pool.Entry{}) {
			t.Error(x, is)
		}
	}
}

// P19.2: who goes with whom.
func TestDrop(t *testing.T) {
	for i, x := range []struct {
		l    []pool.Entry
		id   byte
		gone string
		left string
	}{
		{nil, 1, "", ""},
		{[]pool.Entry{named('a')}, 'a', "a", ""},
		{[]pool.Entry{named('a')}, 'b', "", "a"},
		{[]pool.Entry{named('a'), named('b', 'a'), named('c', 'b'), named('d')}, 'a', "abc", "d"},
		{[]pool.Entry{named('a'), named('b', 'a'), named('c', 'b'), named('d')}, 'b', "bc", "ad"},
		{[]pool.Entry{named('a'), named('b', 'a'), named('c', 'b'), named('d')}, 'c', "c", "abd"},
		// By any of its Ins.
		{[]pool.Entry{named('d'), named('a'), named('b', 'x', 'y', 'a'), named('c', 'd', 'b')}, 'a', "abc", "d"},
		{[]pool.Entry{named('d'), named('a'), named('b', 'x', 'y', 'a'), named('c', 'd', 'b')}, 'd', "dc", "ab"},
		// What stands ahead stays; what isn't there takes nothing along.
		{[]pool.Entry{named('b', 'a'), named('a'), named('c', 'b')}, 'a', "a", "bc"},
		{[]pool.Entry{named('b', 'a'), named('c', 'b')}, 'a', "", "bc"},
		{[]pool.Entry{named('a'), named('d', 'c'), named('c', 'b'), named('b', 'a')}, 'a', "ab", "dc"},
		// Several of one name: all that name goes; of others just what spends.
		{[]pool.Entry{named('a'), named('b'), named('a'), named('c', 'a'), named('a', 'c')}, 'a', "aaca", "b"},
		{[]pool.Entry{named('a'), named('b', 'a'), named('b'), named('c', 'b')}, 'a', "abc", "b"},
		{[]pool.Entry{named('b', 'b'), named('a', 'a')}, 'a', "a", "b"},
		// Nullifiers, notes and anchors follow nobody.
		{[]pool.Entry{named('a'), {Id: key('b'), T: api.Tx{Nulls: []api.Key{key('a')}, Anchor: key('a'), Notes: []api.Key{key('a')}}}}, 'a', "a", "b"},
	} {
		p := of(x.l...)
		q, gone := pool.Drop(p, key(x.id))
		if string(letters(gone)) != x.gone || string(letters(names(q))) != x.left {
			t.Errorf("%d: %s went, %s is left", i, letters(gone), letters(names(q)))
		}
		if q.Now != p.Now || !slices.Equal(q.R, p.R) {
			t.Error(i, q.Now, q.R)
		}
	}
}

// drop is Drop, as the document says it: what went, and what didn't.
func drop(l []pool.Entry, k api.Key) (left []pool.Entry, gone []api.Key) {
	for _, x := range l {
		goes := x.Id == k
		for _, p := range x.T.Ins {
			goes = goes || slices.Contains(gone, p.Tx)
		}
		if goes {
			gone = append(gone, x.Id)
		} else {
			left = append(left, x)
		}
	}
	return left, gone
}

// P19.2: all lists of few entries.
func TestDropAll(t *testing.T) {
	var kinds []pool.Entry
	for n := range byte(3) {
		kinds = append(kinds, named(n), named(n, 0), named(n, 1), named(n, 2), named(n, 0, 1))
	}
	lists := [][]pool.Entry{nil}
	for from, n := 0, 0; n < 4; n++ {
		to := len(lists)
		for _, l := range lists[from:to] {
			for _, x := range kinds {
				lists = append(lists, append(slices.Clone(l), x))
			}
		}
		from = to
	}
	for _, l := range lists {
		for n := range byte(4) {
			q, gone := pool.Drop(of(l...), key(n))
			left, want := drop(l, key(n))
			if !slices.Equal(gone, want) || !slices.EqualFunc(q.L, left, alike) {
				t.Fatalf("%d of %v: %v", n, l, gone)
			}
		}
	}
}

// alike is whether two entries are the same.
func alike(a, b pool.Entry) bool {
	return a.Id == b.Id && a.Fee == b.Fee && tx.Same(a.T, b.T)
}

// P19.2: a long line of children, each of the one ahead of it; others between stay whole.
func TestDropLong(t *testing.T) {
	var p pool.Pool
	for i := range 300 {
		line := pool.Entry{Id: key(1, byte(i>>8), byte(i)), Fee: int64(i)}
		if i > 0 {
			line.T.Ins = []api.Point{{Tx: key(9)}, {Tx: p.L[2*i-2].Id, Index: 3}}
		}
		p.L = append(p.L, line, pool.Entry{Id: key(2, byte(i>>8), byte(i)), T: api.Tx{Ins: []api.Point{{Tx: key(9)}}, Notes: []api.Key{key(byte(i))}}, Fee: -int64(i)})
	}
	q, gone := pool.Drop(p, p.L[200].Id)
	if len(gone) != 200 || len(q.L) != 400 || gone[0] != p.L[200].Id || gone[199] != p.L[598].Id {
		t.Fatal(len(gone), len(q.L))
	}
	left, want := drop(p.L, p.L[200].Id)
	if !slices.Equal(gone, want) || !same(q.L, left) {
		t.Error("another one")
	}
}

// P19.3: up to the limit nothing goes, above it as few as have to.
func TestEvictLimit(t *testing.T) {
	six := []pool.Entry{named(1), named(2), named(3), named(4), named(5), named(6)}
	p := of(six...)
	if q, gone := pool.Evict(p, []uint64{1, 2, 3}); len(gone) != 0 || !same(q, p) {
		t.Error(gone)
	}
	if q, gone := pool.Evict(of(), nil); len(gone) != 0 || !same(q, of()) {
		t.Error(gone)
	}
	// A few bytes above it: one goes, and that is enough.
	big := sized(t, 7, 4030)
	if n := bytes(big.T); n <= 4000 {
		t.Fatal(n)
	}
	p = of(append(slices.Clone(six[1:]), big)...)
	q, gone := pool.Evict(p, nil)
	if !slices.Equal(gone, []api.Key{key(2)}) || pool.Total(q) != 16000+int64(bytes(big.T)) {
		t.Error(gone, pool.Total(q))
	}
	p = of(append(slices.Clone(six), named(7))...)
	q, gone = pool.Evict(p, nil)
	if !slices.Equal(gone, []api.Key{key(1)}) || pool.Total(q) != 24000 || !same(q.L, p.L[1:]) {
		t.Error(gone, pool.Total(q))
	}
}

// P19.3: a draw falls on places by rising Ids, as wide as the weights are.
func TestEvictDraws(t *testing.T) {
	// They came in another order: 3 pays too little, so it weighs five times as much.
	p := of(named(5), named(3), named(7), named(1), named(6), named(2), named(4))
	p.L[1].Fee = 9999
	for i, x := range []struct {
		draw uint64
		id   byte
	}{
		{0, 1}, {3999, 1}, {4000, 2}, {7999, 2}, {8000, 3}, {12000, 3}, {27999, 3}, {28000, 4}, {31999, 4}, {32000, 5}, {36000, 6}, {40000, 7}, {43999, 7},
		{44000, 1}, {48000, 2}, {44000*5 + 28000, 4},
		// The highest draws have no sign.
		{math.MaxInt64, letter(math.MaxInt64)}, {1 << 63, letter(1 << 63)}, {math.MaxUint64, letter(math.MaxUint64)},
	} {
		q, gone := pool.Evict(p, []uint64{x.draw, 0, 0, 0})
		if !slices.Equal(gone, []api.Key{key(x.id)}) {
			t.Error(i, gone)
		}
		left, _ := drop(p.L, key(x.id))
		if !same(q.L, left) || q.Now != 100 || !slices.Equal(q.R, append(slices.Clone(p.R), recent.Item{Id: key(x.id), At: 100})) {
			t.Error(i, q)
		}
	}
}

// letter is on whom of TestEvictDraws a draw falls.
func letter(draw uint64) byte {
	for i, end := range []uint64{4000, 8000, 28000, 32000, 36000, 40000} {
		if draw%44000 < end {
			return byte(i + 1)
		}
	}
	return 7
}

// P19.3: draw by draw, then by 0; who went is told drop by drop, with all that spent of it, and of each drop the picked one alone was evicted just now.
func TestEvictSeveral(t *testing.T) {
	p := of(named('f'), named('b'), named('g', 'f'), named('a', 'g'), named('c'), named('d'), named('e'), named('h'), named('i'), named('j'))
	for i, x := range []struct {
		draws      []uint64
		gone, left string
	}{
		// By rising Ids: a, b, c ..; a alone, then b, c, d.
		{nil, "abcd", "fgehij"},
		{[]uint64{0, 0, 0, 0, 0}, "abcd", "fgehij"},
		{[]uint64{4000}, "bacd", "fgehij"},
		// f takes g and a along, c goes behind them: that is b's place then.
		{[]uint64{4000 * 5, 4000}, "fgac", "bdehij"},
		{[]uint64{4000 * 5}, "fgab", "cdehij"},
		{[]uint64{4000 * 6, 4000 * 7, 1}, "gajb", "fcdehi"},
		{[]uint64{4000 * 9, 4000 * 8, 4000 * 7, 4000 * 6, 4000 * 5}, "jihg" + "a", "fbcde"},
	} {
		q, gone := pool.Evict(p, x.draws)
		if string(letters(gone)) != x.gone || string(letters(names(q))) != x.left {
			t.Errorf("%d: %s went, %s is left", i, letters(gone), letters(names(q)))
		}
	}
	q, _ := pool.Evict(p, []uint64{4000 * 5, 4000})
	if want := append(of().R, recent.Item{Id: key('f'), At: 100}, recent.Item{Id: key('c'), At: 100}); !slices.Equal(q.R, want) {
		t.Error(q.R)
	}
	q, _ = pool.Evict(p, nil)
	if want := "\x5babcd"; string(letters(ids(q.R))) != want {
		t.Error(q.R)
	}
}

// ids is those of items.
func ids(l []recent.Item) []api.Key {
	var s []api.Key
	for _, x := range l {
		s = append(s, x.Id)
	}
	return s
}

// P19.3: what went is evicted just now, at the pool's Now, wherever it stood ahead of that.
func TestEvictAgain(t *testing.T) {
	p := of(named(91), named(92), named(93), named(94), named(95), named(96), named(97))
	p.Now = math.MaxUint64
	q, gone := pool.Evict(p, nil)
	if want := []recent.Item{{Id: key(90), At: 3}, {Id: key(91), At: math.MaxUint64}}; !slices.Equal(gone, []api.Key{key(91)}) || !slices.Equal(q.R, want) || q.Now != p.Now {
		t.Error(gone, q.R)
	}
	// Its time is over, or not: who goes hangs on nothing but weights.
	p.Now, p.L[0].Id = 0, key(90)
	if q, gone = pool.Evict(p, nil); !slices.Equal(gone, []api.Key{key(90)}) || !slices.Equal(q.R, []recent.Item{{Id: key(91), At: 4}, {Id: key(90)}}) {
		t.Error(gone, q.R)
	}
}

// R1, beyond the document's bound: none of more than a thousand can be picked, and still it ends.
func TestEvictEnds(t *testing.T) {
	for _, n := range []int{1001, 1500} {
		p := of(slices.Repeat([]pool.Entry{named(1)}, n)...)
		if q, gone := pool.Evict(p, nil); len(gone) != 0 || len(q.L) != n {
			t.Error(len(gone))
		}
	}
	// Of one name they go all at once.
	p := of(slices.Repeat([]pool.Entry{named(1)}, 1000)...)
	if q, gone := pool.Evict(p, nil); len(gone) != 1000 || len(q.L) != 0 || len(q.R) != 3 {
		t.Error(len(gone))
	}
}

// P19.4: what came stands behind, with its own name and fee.
func TestSubmit(t *testing.T) {
	c := grown(t, 8)
	a := pay(t, c, 1, 12345)
	b := child(t, a, 1)
	s := secret(t, c, 4)
	p := of()
	var l []pool.Entry
	for i, x := range []struct {
		t   api.Tx
		fee int64
	}{{a, 12345}, {b, api.Subsidy - 12346}, {s, 0}, {pay(t, c, 2, 0), 0}} {
		l = append(l, pool.Entry{T: x.t, Id: id(t, x.t), Fee: x.fee})
		q, gone, e := pool.Submit(p, c, x.t, goods(x.t), []uint64{5})
		if e != api.OK || len(gone) != 0 || !same(q, of(l...)) {
			t.Fatal(i, gone, e, q)
		}
		p = q
	}
	if n := pool.Total(p); n != 16000 {
		t.Error(n)
	}
}

// refused holds that x is refused with an error, and the pool beside it is nothing.
func refused(t *testing.T, p pool.Pool, c chain.Chain, x api.Tx, l []oracle.Verdict, want api.Errno) {
	t.Helper()
	q, gone, e := pool.Submit(p, c, x, l, []uint64{1, 2})
	if e != want || len(gone) != 0 || !same(q, pool.Pool{}) {
		t.Error(e, "want", want, gone, q)
	}
}

// P19.4, P19.6: what the pool spends is spent; what it makes can be.
func TestSubmitPool(t *testing.T) {
	c := grown(t, 8)
	a, b, s := pay(t, c, 1, 10000), pay(t, c, 2, 10000), secret(t, c, 4)
	p := submitted(t, of(), c, a, b, s, child(t, b, 5))
	again := pay(t, c, 1, 20000)
	also := again
	also.Nulls, also.Anchor = s.Nulls, s.Anchor
	twice := secret(t, c, 4)
	twice.Notes = []api.Key{key(99)}
	for _, x := range []struct {
		t api.Tx
		e api.Errno
	}{
		{a, api.ErrTwice}, {s, api.ErrTwice}, {p.L[3].T, api.ErrTwice},
		{again, api.ErrFight}, {also, api.ErrFight}, {twice, api.ErrFight},
		{child(t, b, 6), api.ErrInput}, {child(t, again, 6), api.ErrInput}, {pay(t, c, 7, 10000), api.ErrInput},
		{api.Tx{}, api.ErrEmpty},
	} {
		refused(t, p, c, x.t, goods(x.t), x.e)
	}
	refused(t, p, c, child(t, a, 6), nil, api.ErrProof)
	submitted(t, p, c, child(t, a, 6))
}

// wrong is something for which a transaction is refused, and its error.
type wrong struct {
	e  api.Errno
	by func(p *pool.Pool, x *api.Tx)
	// Behind all others, when the transaction is what it will be.
	last func(t *testing.T, p *pool.Pool, x api.Tx, l *[]oracle.Verdict)
}

// P19.4: of all that is wrong the first error is told, of all choices.
func TestSubmitFirst(t *testing.T) {
	c := grown(t, 8)
	spent := pay(t, c, 2, 5)
	all := []wrong{
		{e: api.ErrRepeat, by: func(_ *pool.Pool, x *api.Tx) { x.Ins = append(x.Ins, x.Ins[0]) }},
		{e: api.ErrTwice, last: func(_ *testing.T, p *pool.Pool, x api.Tx, _ *[]oracle.Verdict) {
			k, _ := tx.Id(x)
			p.L[0].Id = k
		}},
		{e: api.ErrEvict, last: func(_ *testing.T, p *pool.Pool, x api.Tx, _ *[]oracle.Verdict) {
			k, _ := tx.Id(x)
			p.R = append([]recent.Item{{Id: k, At: 41}}, p.R...)
		}},
		{e: api.ErrExpiry, by: func(_ *pool.Pool, x *api.Tx) { x.Expiry = 11 }},
		{e: api.ErrProof, last: func(_ *testing.T, _ *pool.Pool, _ api.Tx, l *[]oracle.Verdict) { (*l)[0].Good = false }},
		{e: api.ErrFight, by: func(_ *pool.Pool, x *api.Tx) { x.Ins = append(x.Ins, spent.Ins[0]) }},
		{e: api.ErrInput, by: func(_ *pool.Pool, x *api.Tx) { x.Ins = append(x.Ins, api.Point{Tx: key(66)}) }},
		{e: api.ErrAnchor, by: func(_ *pool.Pool, x *api.Tx) { x.Nulls, x.Anchor = []api.Key{key(5)}, key(77) }},
		{e: api.ErrMoney, by: func(_ *pool.Pool, x *api.Tx) { x.Outs = append(x.Outs, outs(api.Max-2*api.Subsidy)...) }},
		{e: api.ErrFee, by: func(_ *pool.Pool, x *api.Tx) { x.Outs = append(x.Outs, make([]api.Out, 11)...) }},
	}
	for bits := range 1 << len(all) {
		// Out of the one that waits a coin can be spent; the name of its entry says nothing of that.
		p, want := submitted(t, of(), c, spent), api.OK
		x := pay(t, c, 1, 10)
		for i, w := range all {
			if bits>>i&1 == 0 {
				continue
			}
			if want == api.OK {
				want = w.e
			}
			if w.by != nil {
				w.by(&p, &x)
			}
		}
		l := goods(x)
		for i, w := range all {
			if bits>>i&1 == 1 && w.last != nil {
				w.last(t, &p, x, &l)
			}
		}
		q, gone, e := pool.Submit(p, c, x, l, nil)
		if e != want || len(gone) != 0 || e != api.OK && !same(q, pool.Pool{}) {
			t.Errorf("%b: %d, want %d", bits, e, want)
		}
		if e == api.OK && len(q.L) != 2 {
			t.Error(q)
		}
	}
}

// P19.4: errors of what may not be by itself; R and the pool say nothing of what has no Id.
func TestSubmitCheck(t *testing.T) {
	c := grown(t, 8)
	a := pay(t, c, 1, 10000)
	p := of(pool.Entry{})
	p.R = append(p.R, recent.Item{At: 99})
	for _, x := range []struct {
		by func(x *api.Tx)
		e  api.Errno
	}{
		{func(x *api.Tx) { x.Notes = make([]api.Key, 41) }, api.ErrMany},
		{func(x *api.Tx) { x.Anchor = key(1) }, api.ErrArg},
		{func(x *api.Tx) { x.Outs = nil }, api.ErrEmpty},
		{func(x *api.Tx) { x.Ins = []api.Point{{Index: 9}} }, api.ErrCoin},
		{func(x *api.Tx) { x.Ins = append(x.Ins, x.Ins[0]) }, api.ErrRepeat},
		{func(x *api.Tx) { x.Balance = 1 }, api.ErrMoney},
		{func(x *api.Tx) { x.Expiry = 500000000 }, api.ErrExpiry},
		{func(x *api.Tx) { x.Expiry = 11 }, api.ErrExpiry},
		{func(x *api.Tx) { x.Outs[0].Value = api.Subsidy + 1 }, api.ErrMoney},
	} {
		y := a
		y.Outs = slices.Clone(a.Outs)
		x.by(&y)
		refused(t, p, c, y, goods(y), x.e)
	}
	a.Expiry = 12
	if q, _, e := pool.Submit(p, c, a, goods(a), nil); e != api.OK || len(q.L) != 2 {
		t.Error(e)
	}
}

// P19.4: without a view of the pool the chain's is taken: what the pool spends can be spent again, what it makes can't be.
func TestSubmitNoView(t *testing.T) {
	c := grown(t, 8)
	a := pay(t, c, 1, 10000)
	lost := api.Tx{Ins: []api.Point{{Tx: key(55)}}, Outs: outs(0)}
	for i, l := range [][]api.Tx{{a, lost}, {lost, a}, {a, {}}, {a, a}} {
		p := of()
		for _, x := range l {
			p.L = append(p.L, pool.Entry{T: x, Id: key(byte(len(p.L)))})
		}
		again := pay(t, c, 1, 20000)
		q, gone, e := pool.Submit(p, c, again, goods(again), nil)
		if e != api.OK || len(gone) != 0 || len(q.L) != 3 || !same(q.L[2], pool.Entry{T: again, Id: id(t, again), Fee: 20000}) {
			t.Error(i, e, gone)
		}
		refused(t, p, c, child(t, a, 1), goods(child(t, a, 1)), api.ErrInput)
		// By its name it isn't there, and by its coin neither.
		if _, _, e := pool.Submit(p, c, a, goods(a), nil); e != api.OK {
			t.Error(i, e)
		}
	}
}

// P19.4: where there is no room one goes by draw, be it the one that came.
func TestSubmitEvicts(t *testing.T) {
	c := grown(t, 12)
	p := of()
	for h := range uint32(6) {
		p = submitted(t, p, c, pay(t, c, h+1, 10000))
	}
	x := pay(t, c, 7, 10000)
	full := p
	full.L = append(slices.Clone(p.L), pool.Entry{T: x, Id: id(t, x), Fee: 10000})
	order := names(full)
	slices.SortFunc(order, func(a, b api.Key) int { return slices.Compare(a[:], b[:]) })
	for i, k := range order {
		q, gone, e := pool.Submit(p, c, x, goods(x), []uint64{uint64(4000*i + 3999)})
		left, _ := drop(full.L, k)
		want := pool.Pool{L: left, R: append(slices.Clone(p.R), recent.Item{Id: k, At: 100}), Now: 100}
		if e != api.OK || !slices.Equal(gone, []api.Key{k}) || !same(q, want) {
			t.Error(i, e, gone, q)
		}
	}
	// Who pays too little is five times as likely to go; who comes with a child goes with it.
	low := pay(t, c, 7, 9999)
	less := 0
	for _, y := range p.L {
		k := id(t, low)
		if slices.Compare(y.Id[:], k[:]) < 0 {
			less++
		}
	}
	for _, d := range []int{0, 19999} {
		if _, gone, e := pool.Submit(p, c, low, goods(low), []uint64{uint64(4000*less + d)}); e != api.OK || !slices.Equal(gone, []api.Key{id(t, low)}) {
			t.Error(d, e, gone)
		}
	}
	y := child(t, p.L[2].T, 0)
	full.L = append(slices.Clone(p.L), pool.Entry{T: y, Id: id(t, y), Fee: 0})
	order = names(full)
	slices.SortFunc(order, func(a, b api.Key) int { return slices.Compare(a[:], b[:]) })
	q, gone, e := pool.Submit(p, c, y, goods(y), []uint64{uint64(4000 * slices.Index(order, p.L[2].Id))})
	if e != api.OK || !slices.Equal(gone, []api.Key{p.L[2].Id, id(t, y)}) || len(q.L) != 5 || q.R[len(q.R)-1].Id != p.L[2].Id {
		t.Error(e, gone)
	}
}

// P19.4, P19.6: what was evicted is refused till its time is over, and nothing else is.
func TestSubmitRefused(t *testing.T) {
	c := grown(t, 8)
	a, b := pay(t, c, 1, 10000), pay(t, c, 2, 10000)
	p := pool.Pool{R: []recent.Item{{Id: id(t, a), At: 7}}}
	for _, x := range []struct {
		now uint64
		e   api.Errno
	}{{0, api.ErrEvict}, {7, api.ErrEvict}, {66, api.ErrEvict}, {67, api.OK}, {68, api.OK}, {math.MaxUint64, api.OK}} {
		p.Now = x.now
		q, _, e := pool.Submit(p, c, a, goods(a), nil)
		if e != x.e || e == api.OK && (q.Now != x.now || !slices.Equal(q.R, p.R)) {
			t.Error(x.now, e, q)
		}
		submitted(t, p, c, b)
	}
	p.Now, p.R[0].At = math.MaxUint64, math.MaxUint64-59
	refused(t, p, c, a, goods(a), api.ErrEvict)
	p.R[0].At--
	submitted(t, p, c, a)
}

// P19.5: by the chain as it is now: who may still wait, waits, in order.
func TestRefresh(t *testing.T) {
	c := grown(t, 8)
	a, b := pay(t, c, 1, 10000), pay(t, c, 2, 9000)
	ends := pay(t, c, 3, 10000)
	ends.Expiry = 12
	p := submitted(t, of(), c, a, child(t, a, 7), b, ends, secret(t, c, 4), child(t, child(t, a, 7), 3))
	if q := pool.Refresh(p, c, nil); !same(q, p) {
		t.Error(q)
	}
	for i, x := range []struct {
		l    []api.Tx
		left []int
	}{
		{nil, []int{0, 1, 2, 4, 5}},
		{[]api.Tx{a}, []int{1, 2, 4, 5}},
		{[]api.Tx{a, p.L[1].T}, []int{2, 4, 5}},
		{[]api.Tx{b}, []int{0, 1, 4, 5}},
		{[]api.Tx{secret(t, c, 4)}, []int{0, 1, 2, 5}},
		// Another one has spent what they spend, so that their children go, too.
		{[]api.Tx{pay(t, c, 1, 3)}, []int{2, 4}},
		{[]api.Tx{a, child(t, a, 8)}, []int{2, 4}},
		{pool.Txs(p), nil},
	} {
		want := of()
		for _, n := range x.left {
			want.L = append(want.L, p.L[n])
		}
		if q := pool.Refresh(p, connected(t, c, x.l...), nil); !same(q, want) {
			t.Error(i, q)
		}
	}
}

// P19.5: an anchor goes with the last of its four blocks.
func TestRefreshAnchor(t *testing.T) {
	// Each block has a note, so that each has a root of its own.
	c := chain.Genesis()
	for n := range byte(6) {
		c = connected(t, c, secret(t, c, 100+n))
	}
	p := submitted(t, of(), c, secret(t, c, 4))
	for n := range byte(6) {
		if q := pool.Refresh(p, c, nil); len(q.L) == 1 != (n < 4) {
			t.Error(n, q)
		}
		c = connected(t, c, secret(t, c, 120+n))
	}
}

// P19.5: first comes first, and drives out what fights it; what is there already does not come again.
func TestRefreshFirst(t *testing.T) {
	c := grown(t, 8)
	a, b, d := pay(t, c, 1, 10000), pay(t, c, 2, 10000), pay(t, c, 3, 10000)
	again := pay(t, c, 2, 20000)
	p := submitted(t, of(), c, b, child(t, b, 5), d)
	for i, x := range []struct {
		first, want []api.Tx
	}{
		{nil, []api.Tx{b, child(t, b, 5), d}},
		{[]api.Tx{a}, []api.Tx{a, b, child(t, b, 5), d}},
		{[]api.Tx{child(t, a, 9), a}, []api.Tx{a, b, child(t, b, 5), d}},
		{[]api.Tx{a, child(t, a, 9)}, []api.Tx{a, child(t, a, 9), b, child(t, b, 5), d}},
		{[]api.Tx{a, a, a}, []api.Tx{a, b, child(t, b, 5), d}},
		{[]api.Tx{d, b}, []api.Tx{d, b, child(t, b, 5)}},
		{[]api.Tx{again}, []api.Tx{again, d}},
		{[]api.Tx{again, b, pay(t, c, 8, 0), {}, base(9), {Ins: make([]api.Point, 41)}, a}, []api.Tx{again, a, d}},
		{[]api.Tx{child(t, b, 5)}, []api.Tx{b, child(t, b, 5), d}},
		{[]api.Tx{b, child(t, b, 6)}, []api.Tx{b, child(t, b, 6), d}},
	} {
		if q := pool.Refresh(p, c, x.first); !same(pool.Txs(q), x.want) || q.Now != 100 || !slices.Equal(q.R, p.R) {
			t.Error(i, q)
		}
	}
}

// base is a coinbase.
func base(height uint32) api.Tx {
	return api.Tx{Ins: []api.Point{{Index: height}}, Outs: outs(1)}
}

// P19.5: names and fees are told anew; nothing is evicted, and what was evicted just now is no reason.
func TestRefreshAnew(t *testing.T) {
	c := grown(t, 12)
	var want, p pool.Pool
	for h := range uint32(9) {
		x := pay(t, c, h+1, int64(h))
		want.L = append(want.L, pool.Entry{T: x, Id: id(t, x), Fee: int64(h)})
		p.L = append(p.L, pool.Entry{T: x, Id: key(3), Fee: -5})
		p.R = append(p.R, recent.Item{Id: id(t, x), At: 50})
	}
	p.Now = 51
	want.R, want.Now = p.R, p.Now
	if q := pool.Refresh(p, c, nil); !same(q, want) || pool.Total(q) != 36000 {
		t.Error(q)
	}
	// An entry is not there by its name, but by its transaction's.
	p.L = []pool.Entry{{T: want.L[0].T, Id: want.L[1].Id}, {T: want.L[1].T, Id: want.L[0].Id}}
	if q := pool.Refresh(p, c, nil); !same(q.L, want.L[:2]) {
		t.Error(q)
	}
	if q := pool.Refresh(p, c, pool.Txs(want)); !same(q, want) {
		t.Error(q)
	}
	// Ten actions unpaid are what may wait, eleven are not.
	for n, is := range map[int]bool{10: true, 11: false} {
		y := pay(t, c, 1, 0)
		y.Outs = append(y.Outs, make([]api.Out, n-1)...)
		if q := pool.Refresh(pool.Pool{L: []pool.Entry{{T: y, Fee: api.Max}}}, c, nil); len(q.L) == 1 != is {
			t.Error(n, q)
		}
	}
}

// P19.5: where a coin is there twice, a transaction could come once more: by its Id it is there already.
func TestRefreshTwice(t *testing.T) {
	at := api.Point{Tx: key(1)}
	twice := []coins.Coin{{At: at, Out: api.Out{Value: 500}}, {At: at, Out: api.Out{Value: 500}}}
	c := chain.Chain{Coins: twice}
	x := api.Tx{Ins: []api.Point{at}, Notes: []api.Key{key(2)}, Balance: -500}
	y := x
	y.Notes = []api.Key{key(3)}
	want := []pool.Entry{{T: x, Id: id(t, x)}, {T: y, Id: id(t, y)}}
	for i, l := range [][]api.Tx{{x, x, y}, {x, y}, {x, x, y, x, y}} {
		if q := pool.Refresh(pool.Pool{}, c, l); !same(q.L, want) {
			t.Error(i, q)
		}
		p := pool.Pool{}
		for _, z := range l {
			p.L = append(p.L, pool.Entry{T: z})
		}
		if q := pool.Refresh(p, c, nil); !same(q.L, want) {
			t.Error(i, q)
		}
	}
	// Submit asks so, too.
	refused(t, pool.Pool{L: want[:1]}, c, x, goods(x), api.ErrTwice)
	submitted(t, pool.Pool{L: want[:1]}, c, y)
}

// R3, R5: nothing that is handed in is changed or kept, and no two lists of an answer meet.
func TestMemory(t *testing.T) {
	c := grown(t, 12)
	a := pay(t, c, 1, 10000)
	b := child(t, a, 7)
	p := submitted(t, of(), c, a, b, secret(t, c, 4), pay(t, c, 2, 0), pay(t, c, 3, 10000), pay(t, c, 4, 10000))
	over := p
	over.L = append(slices.Clone(p.L), named(5), named(6, 5), named(5))
	odd := of(named(1), named(1, 1), pool.Entry{}, named(2))
	x := pay(t, c, 5, 10000)
	for _, q := range []pool.Pool{p, over, odd, {}, {L: []pool.Entry{}, R: []recent.Item{}}} {
		kept(t, "Txs", []any{q}, func(a []any) []any { return []any{pool.Txs(a[0].(pool.Pool))} })
		kept(t, "Total", []any{q}, func(a []any) []any { return []any{pool.Total(a[0].(pool.Pool))} })
		for _, k := range []api.Key{{}, key(1), key(5), id(t, a), key(99)} {
			kept(t, "Find", []any{q, k}, func(a []any) []any {
				x, is := pool.Find(a[0].(pool.Pool), a[1].(api.Key))
				return []any{x, is}
			})
			kept(t, "Drop", []any{q, k}, func(a []any) []any {
				r, gone := pool.Drop(a[0].(pool.Pool), a[1].(api.Key))
				return []any{r, gone}
			})
		}
		for _, draws := range [][]uint64{nil, {4000}, {9, 99999, 7, 6}} {
			kept(t, "Evict", []any{q, draws}, func(a []any) []any {
				r, gone := pool.Evict(a[0].(pool.Pool), a[1].([]uint64))
				return []any{r, gone}
			})
			for _, y := range []api.Tx{x, a, b, {}, {Notes: make([]api.Key, 99)}} {
				kept(t, "Submit", []any{q, c, y, goods(y), draws}, func(a []any) []any {
					r, gone, e := pool.Submit(a[0].(pool.Pool), a[1].(chain.Chain), a[2].(api.Tx), a[3].([]oracle.Verdict), a[4].([]uint64))
					return []any{r, gone, e}
				})
			}
		}
		for _, first := range [][]api.Tx{nil, {x}, {b, x, {}, a, x}} {
			kept(t, "Refresh", []any{q, c, first}, func(a []any) []any {
				return []any{pool.Refresh(a[0].(pool.Pool), a[1].(chain.Chain), a[2].([]api.Tx))}
			})
		}
	}
}
