package template_test

import (
	"math"
	"slices"
	"testing"

	"thurible/anchor"
	"thurible/api"
	"thurible/block"
	"thurible/chain"
	"thurible/oracle"
	"thurible/pool"
	"thurible/recent"
	"thurible/template"
	"thurible/tree"
	"thurible/tx"
)

// key is a key that begins by these bytes.
func key(l ...byte) (k api.Key) {
	copy(k[:], l)
	return k
}

// outs are outs of these values, each with a lock of its own.
func outs(values ...int64) []api.Out {
	var l []api.Out
	for i, v := range values {
		l = append(l, api.Out{Value: v, Lock: key(7, byte(i))})
	}
	return l
}

// id is x's; it has one.
func id(t *testing.T, x api.Tx) api.Key {
	t.Helper()
	k, e := tx.Id(x)
	if e != api.OK {
		t.Fatal("Id", e)
	}
	return k
}

// goods is verdicts that all of l is good, told without admit; none on what has no Id.
func goods(l ...api.Tx) []oracle.Verdict {
	var v []oracle.Verdict
	for _, x := range l {
		k, e := tx.Id(x)
		for i := range len(x.Ins) + len(x.Nulls) + len(x.Notes) {
			if e == api.OK {
				v = append(v, oracle.Verdict{Tx: k, Item: i, Good: true})
			}
		}
	}
	return v
}

// root is what c's tree is, with the notes of l behind.
func root(t *testing.T, c chain.Chain, l ...api.Tx) api.Key {
	t.Helper()
	var notes []api.Key
	for _, x := range l {
		notes = append(notes, x.Notes...)
	}
	u, e := tree.All(c.Tree, notes)
	if e != api.OK {
		t.Fatal("All", e)
	}
	return tree.Root(u)
}

// connected is c with a block of l behind, which may be.
func connected(t *testing.T, c chain.Chain, l ...api.Tx) chain.Chain {
	t.Helper()
	w := chain.Start(c)
	for i, x := range l {
		var e api.Errno
		if w, _, e = chain.Add(w, x, goods(x)); e != api.OK {
			t.Fatal("Add", i, e)
		}
	}
	base := api.Tx{Ins: []api.Point{{Index: c.Height + 1}}, Outs: outs(api.Subsidy + w.Fees)}
	d, e := chain.Connect(c, api.Block{Prev: c.Tip, Root: root(t, c, l...), Txs: append([]api.Tx{base}, l...)}, goods(l...))
	if e != api.OK {
		t.Fatal("Connect", e)
	}
	return d
}

// grown is a chain of n blocks of coinbases alone.
func grown(t *testing.T, n int) chain.Chain {
	t.Helper()
	c := chain.Genesis()
	for range n {
		c = connected(t, c)
	}
	return c
}

// coinOf is where the coin is that the coinbase of a height made.
func coinOf(t *testing.T, c chain.Chain, height uint32) api.Point {
	t.Helper()
	for _, x := range c.Coins {
		if x.Base && x.Height == height {
			return x.At
		}
	}
	t.Fatal("no coin of", height)
	return api.Point{}
}

// pay spends the coin of a height, but for a fee.
func pay(t *testing.T, c chain.Chain, height uint32, fee int64) api.Tx {
	t.Helper()
	return api.Tx{Ins: []api.Point{coinOf(t, c, height)}, Outs: outs(api.Subsidy - fee)}
}

// child spends the first out of x, of which this is left.
func child(t *testing.T, x api.Tx, left int64) api.Tx {
	t.Helper()
	return api.Tx{Ins: []api.Point{{Tx: id(t, x)}}, Outs: outs(left)}
}

// secret has such a nullifier, by the last root of c, and so many notes; it pays nothing.
func secret(t *testing.T, c chain.Chain, n byte, notes int) api.Tx {
	t.Helper()
	k, is := anchor.Last(c.Ring)
	if !is {
		t.Fatal("no root")
	}
	x := api.Tx{Nulls: []api.Key{key(n)}, Anchor: k}
	for i := range notes {
		x.Notes = append(x.Notes, key(n, byte(i)))
	}
	return x
}

// parted is c with the coin of a height parted into n coins of so much, and those.
func parted(t *testing.T, c chain.Chain, height uint32, n int, value int64) (chain.Chain, []api.Point) {
	t.Helper()
	x := pay(t, c, height, 0)
	x.Outs = nil
	var l []api.Point
	for range n {
		x.Outs = append(x.Outs, outs(value)...)
	}
	for i := range n {
		l = append(l, api.Point{Tx: id(t, x), Index: uint32(i)})
	}
	return connected(t, c, x), l
}

// as is x as it stands in a pool under a name, with a fee that need not be what it pays.
func as(name byte, x api.Tx, fee int64) pool.Entry {
	return pool.Entry{T: x, Id: key(name), Fee: fee}
}

// of is a pool of these entries.
func of(l ...pool.Entry) pool.Pool {
	return pool.Pool{L: l, R: []recent.Item{{Id: key(90), At: 3}, {Id: key('a'), At: 4}}, Now: 50}
}

// names is the names under which l stand in p, in order.
func names(t *testing.T, p pool.Pool, l []api.Tx) string {
	t.Helper()
	var s []byte
	for _, x := range l {
		i := slices.IndexFunc(p.L, func(y pool.Entry) bool { return tx.Same(x, y.T) })
		if i < 0 {
			t.Fatal("not of the pool", x)
		}
		s = append(s, p.L[i].Id[0])
	}
	return string(s)
}

// picks holds that of p just these are picked, in order, whatever they pay; it tells their fees.
func picks(t *testing.T, what any, c chain.Chain, p pool.Pool, draws []uint64, want string) int64 {
	t.Helper()
	l, fees := template.Pick(c, p, draws)
	if got := names(t, p, l); got != want {
		t.Errorf("%v: %q, want %q", what, got, want)
	}
	return fees
}

// P21.1: the In tells the height, the Out takes the subsidy and the fees, which go round unchecked.
func TestBase(t *testing.T) {
	for i, x := range []struct {
		height uint32
		lock   api.Key
		fees   int64
		value  int64
	}{
		{0, api.Key{}, 0, 5000000},
		{1, key(1), 1, 5000001},
		{11, key(5, 6), 60000, 5060000},
		{math.MaxUint32, key(255), api.Max, 2100000005000000},
		{7, key(0, 0, 1), -5000000, 0},
		{7, key(1), -5000001, -1},
		{8, api.Key{31: 1}, math.MaxInt64 - 5000000, math.MaxInt64},
		{8, key(1), math.MaxInt64 - 4999999, math.MinInt64},
		{9, key(1), math.MaxInt64, math.MinInt64 + 4999999},
		{9, key(1), math.MinInt64, math.MinInt64 + 5000000},
	} {
		got := template.Base(x.height, x.lock, x.fees)
		want := api.Tx{Ins: []api.Point{{Index: x.height}}, Outs: []api.Out{{Value: x.value, Lock: x.lock}}}
		if !same(got, want) || !tx.Coinbase(got) {
			t.Error(i, got)
		}
		if block.Size(got) != 92 {
			t.Error(i, block.Size(got))
		}
	}
}

// P21.2: of an empty pool nothing, whatever else there is.
func TestPickNothing(t *testing.T) {
	for i, c := range []chain.Chain{{}, chain.Genesis(), grown(t, 4)} {
		for _, p := range []pool.Pool{{}, {L: []pool.Entry{}}, of()} {
			for _, draws := range [][]uint64{nil, {}, {0}, {5, math.MaxUint64}} {
				if l, fees := template.Pick(c, p, draws); len(l) != 0 || fees != 0 {
					t.Error(i, l, fees)
				}
			}
		}
	}
}

// P21.2: who is picked is told by Ids, by fees as they stand there, and by one draw after the other.
func TestPickDraws(t *testing.T) {
	c := grown(t, 10)
	// By rising Ids they weigh 262144, 1 and 65536: 327681 in all.
	p := of(as('c', pay(t, c, 1, 7), 10000), as('a', pay(t, c, 2, 80), 70000), as('b', pay(t, c, 3, 900), -1))
	for i, x := range []struct {
		draws []uint64
		want  string
	}{
		{nil, "abc"},
		{[]uint64{}, "abc"},
		{[]uint64{0}, "abc"},
		{[]uint64{262143}, "abc"},
		{[]uint64{262144}, "bac"},
		{[]uint64{262145}, "cab"},
		{[]uint64{327680}, "cab"},
		{[]uint64{327681}, "abc"},
		{[]uint64{327681 + 262144}, "bac"},
		{[]uint64{327681*1000000007 + 262145}, "cab"},
		{[]uint64{327681*(math.MaxUint64/327681) - 1}, "cab"},
		// Then b and c: 1 and 65536.
		{[]uint64{0, 0}, "abc"},
		{[]uint64{0, 1}, "acb"},
		{[]uint64{0, 65536}, "acb"},
		{[]uint64{0, 65537}, "abc"},
		// Then a and c: 262144 and 65536.
		{[]uint64{262144, 262143}, "bac"},
		{[]uint64{262144, 262144}, "bca"},
		// Then a and b: 262144 and 1.
		{[]uint64{262145, 262143}, "cab"},
		{[]uint64{262145, 262144, 5}, "cba"},
		// More draws than there are picks.
		{[]uint64{262145, 262144, 5, 6, 7}, "cba"},
	} {
		if fees := picks(t, i, c, p, x.draws, x.want); fees != 987 {
			t.Error(i, fees)
		}
	}
	// Weights are held: four times what is due at the most, and 1 at the least.
	p = of(as('a', pay(t, c, 1, 0), api.Max), as('b', pay(t, c, 2, 0), 40000), as('c', pay(t, c, 3, 0), 39999), as('d', pay(t, c, 4, 0), 10000), as('e', pay(t, c, 5, 0), 0), as('f', pay(t, c, 6, 0), math.MinInt64))
	for draw, want := range map[uint64]string{
		0: "a", 262143: "a", 262144: "b", 524287: "b", 524288: "c", 524288 + 262136: "c", 524288 + 262137: "d",
		786425 + 65535: "d", 786425 + 65536: "e", 786425 + 65537: "f", 786425 + 65538: "a",
	} {
		if l, _ := template.Pick(c, p, []uint64{draw}); names(t, p, l[:1]) != want {
			t.Error(draw, names(t, p, l))
		}
	}
}

// P21.2: Ids are keys, and what they name needs no such name.
func TestPickIds(t *testing.T) {
	c := grown(t, 10)
	var l []pool.Entry
	for i, k := range []api.Key{{0: 'd', 31: 1}, {0: 'c', 1: 200}, {0: 'b', 1: 1}, {0: 255}, {0: 'd', 30: 1}, {}} {
		l = append(l, pool.Entry{T: pay(t, c, uint32(i+1), 10000), Id: k, Fee: 10000})
	}
	picks(t, "rising", c, of(l...), nil, "\x00bcdd\xff")
	got, _ := template.Pick(c, of(l...), nil)
	if len(got) != 6 || !tx.Same(got[3], l[0].T) || !tx.Same(got[4], l[4].T) {
		t.Error(got)
	}
}

// P21.2: those of one Id stand in their order, also when one of them has waited.
func TestPickSameId(t *testing.T) {
	c := grown(t, 10)
	parent := pay(t, c, 1, 10000)
	var l []pool.Entry
	for n := range byte(7) {
		l = append(l, as('a', pay(t, c, uint32(n+2), int64(n)), 10000))
	}
	got, _ := template.Pick(c, of(l[6], l[2], l[4], l[0], l[1], l[5], l[3]), nil)
	for i, n := range []int{6, 2, 4, 0, 1, 5, 3} {
		if len(got) != 7 || !tx.Same(got[i], l[n].T) {
			t.Fatal(i, got)
		}
	}
	// The first of the name waits, the parent is taken, and then the first of the name comes first.
	kid := child(t, parent, 5)
	got, _ = template.Pick(c, of(l[0], as('a', kid, 10000), l[1], as('b', parent, 10000), l[2]), []uint64{65536, 65536 * 3, 65536, 65536, 65536})
	want := []api.Tx{parent, kid, l[1].T, l[2].T, l[0].T}
	for i, x := range want {
		if len(got) != 5 || !tx.Same(got[i], x) {
			t.Fatal(i, got)
		}
	}
}

// odds are transactions that chain.Add refuses behind c for other things than what they spend, by the error.
func odds(t *testing.T, c chain.Chain) map[api.Errno]api.Tx {
	t.Helper()
	in := func() api.Tx { return pay(t, c, 4, 10000) }
	arg, many, coin, repeat, money, late := in(), in(), in(), in(), in(), in()
	arg.Anchor = key(1)
	many.Notes = make([]api.Key, 41)
	coin.Ins = []api.Point{{Index: 3}}
	repeat.Ins = append(repeat.Ins, repeat.Ins[0])
	money.Outs = outs(api.Subsidy + 1)
	late.Expiry = c.Height
	spent, other := secret(t, c, 200, 1), secret(t, c, 201, 1)
	other.Anchor = key(99)
	deep := secret(t, c, 202, 0)
	deep.Balance, deep.Outs = c.Pool+1, outs(1)
	return map[api.Errno]api.Tx{
		api.ErrEmpty: {}, api.ErrArg: arg, api.ErrMany: many, api.ErrCoin: coin, api.ErrRepeat: repeat, api.ErrMoney: money,
		api.ErrExpiry: late, api.ErrSpent: spent, api.ErrAnchor: other, api.ErrPool: deep,
	}
}

// P21.2: what has another error than ErrInput is passed by, and takes a draw once.
func TestPickPassed(t *testing.T) {
	c := connected(t, grown(t, 10), secret(t, grown(t, 10), 200, 2))
	for e, x := range odds(t, c) {
		if _, _, got := chain.Add(chain.Start(c), x, goods(x)); got != e {
			t.Fatal("wanted", e, "got", got)
		}
		// As much weighs whatever it is, by its fee.
		b := as('b', x, math.MaxInt64)
		p := of(as('d', pay(t, c, 1, 1), 10000), as('a', pay(t, c, 2, 1), 10000), b, as('c', pay(t, c, 3, 1), 10000))
		// First b, then a of a, c and d, then d of c and d; were b left again, c of b, c and d.
		picks(t, e, c, p, []uint64{65536, 0, 65536}, "adc")
		picks(t, e, c, p, []uint64{65536*5 + 1, 65536, 65536}, "cda")
		picks(t, e, c, p, nil, "acd")
		// b alone.
		picks(t, e, c, of(b), nil, "")
	}
	// An error of a coin that is there twice, too.
	x := pay(t, c, 4, 10000)
	d := c
	d.Coins = append(d.Coins[:len(d.Coins):len(d.Coins)], d.Coins[0])
	d.Coins[len(c.Coins)].At = api.Point{Tx: id(t, x)}
	picks(t, "twice", d, of(as('b', x, math.MaxInt64), as('a', pay(t, c, 2, 1), 10000), as('c', pay(t, c, 1, 1), 10000), as('d', pay(t, c, 3, 1), 10000)), []uint64{65536, 0, 65536}, "adc")
}

// P21.2: what spends what is not there waits, and is left again behind each that is taken.
func TestPickWaits(t *testing.T) {
	c := grown(t, 10)
	lost := child(t, pay(t, c, 9, 1), 5)
	young := pay(t, c, 9, 10000)
	again := pay(t, c, 2, 5)
	for i, x := range []api.Tx{lost, young} {
		p := of(as('d', pay(t, c, 1, 1), 10000), as('a', pay(t, c, 2, 1), 10000), as('b', x, 10000), as('c', pay(t, c, 3, 1), 10000))
		// First b; then a of a, c and d; then c of b, c and d; then d of b and d.
		picks(t, i, c, p, []uint64{65536, 0, 65536, 65536}, "acd")
		// While it waits it is not left: c of a, c and d, though b stands ahead of it.
		picks(t, i, c, p, []uint64{65536, 65536, 65536 * 2}, "cda")
		// Behind a's b of b, c and d waits again: then d of c and d.
		picks(t, i, c, p, []uint64{65536, 0, 0, 65536, 0}, "adc")
	}
	// What another one spent that was taken: it waits for ever, too.
	p := of(as('d', pay(t, c, 1, 1), 10000), as('a', pay(t, c, 2, 1), 10000), as('b', again, 10000), as('c', pay(t, c, 3, 1), 10000))
	picks(t, "again", c, p, []uint64{0, 0, 0, 0}, "acd")
	picks(t, "again", c, p, []uint64{0, 0, 65536, 65536}, "adc")
	picks(t, "the other one", c, p, []uint64{65536}, "bcd")
	// A coinbase's coin can be spent by the block that is three behind.
	picks(t, "ripe", c, of(as('a', pay(t, c, 8, 1), 1)), nil, "a")
	picks(t, "young", c, of(as('a', pay(t, c, 9, 1), 1)), nil, "")
}

// P21.2: parents that wait, too.
func TestPickFamily(t *testing.T) {
	c := grown(t, 10)
	c1 := pay(t, c, 1, 10000)
	b1 := child(t, c1, 4980000)
	a1 := child(t, b1, 4970000)
	p := of(as('a', a1, 10000), as('b', b1, 10000), as('c', c1, 10000), as('d', pay(t, c, 2, 500), 10000))
	for i, x := range []struct {
		draws []uint64
		want  string
	}{
		// a and b wait, c comes; a waits again, b comes, and a.
		{nil, "cbad"},
		// c comes, then b of a, b and d, then d of a and d.
		{[]uint64{65536 * 2, 65536, 65536}, "cbda"},
		// a waits; d of b, c and d comes; a waits again; b too; c.
		{[]uint64{0, 65536 * 2}, "dcba"},
		// b waits; c comes, and both are left, and d.
		{[]uint64{65536, 65536, 65536}, "cbad"},
		{[]uint64{65536, 65536, 65536 * 2}, "cdba"},
	} {
		if fees := picks(t, i, c, p, x.draws, x.want); fees != 30500 {
			t.Error(i, fees)
		}
	}
	// Without the grandmother nobody of them comes, and her fees don't.
	if fees := picks(t, "orphans", c, of(p.L[0], p.L[1], p.L[3]), nil, "d"); fees != 500 {
		t.Error(fees)
	}
}

// P21.2: 29 are taken at the most, be they what they are.
func TestPickMany(t *testing.T) {
	c, at := parted(t, grown(t, 10), 1, 35, 100000)
	var l []pool.Entry
	for i, in := range at {
		l = append(l, as(byte('Z'-i), api.Tx{Ins: []api.Point{in}, Outs: outs(90000 - int64(i))}, 10000))
	}
	const all = "89:;<=>?@ABCDEFGHIJKLMNOPQRSTUVWXYZ"
	for n := range 36 {
		fees := picks(t, n, c, of(l[35-n:]...), nil, all[:min(n, 29)])
		// The last ones pay the most: 10034 down, from the first name on.
		want := int64(0)
		for i := range min(n, 29) {
			want += 10034 - int64(i)
		}
		if fees != want {
			t.Error(n, fees, want)
		}
	}
	picks(t, "the last ones first", c, of(l...), []uint64{35*65536 - 1, 34*65536 - 1, 33*65536 - 1}, "ZYX"+all[:26])
}

// wide spends coins for so many outs, and notes, of nothing: all that they are worth is its fee.
func wide(ins []api.Point, outs, notes int) api.Tx {
	x := api.Tx{Ins: ins, Outs: make([]api.Out, outs)}
	for i := range notes {
		x.Notes = append(x.Notes, key(ins[0].Tx[0], byte(i)))
	}
	return x
}

// P21.2: the block has 20000 bytes at the most; with all that a block has, 161 are there ahead of the first one.
func TestPickSize(t *testing.T) {
	c, at := parted(t, grown(t, 10), 1, 20, 100000)
	var l []pool.Entry
	for i := range 6 {
		l = append(l, as(byte('a'+i), wide(at[i:i+1], 40, 40), api.Max))
	}
	// All sizes are multiples of four: 19997 bytes may be, and 20001 not.
	below := wide(at[6:7], 38, 21)
	above := wide(at[6:8], 38, 20)
	if n, m := block.Size(below), block.Size(above); 161+6*2932+n != 19997 || 161+6*2932+m != 20001 {
		t.Fatal(n, m)
	}
	small := as('z', wide(at[8:9], 1, 0), api.Max)
	full := of(append(l[:6:6], as('g', below, api.Max))...)
	picks(t, "as much as may be", c, full, nil, "abcdefg")
	b, e := template.Build(c, full, key(1), 2, nil)
	if s, e2 := block.Encode(b); e != api.OK || e2 != api.OK || len(s) != 19997 {
		t.Error(e, e2, len(s))
	}
	// What is too long is passed by, and what is behind it comes.
	picks(t, "too much", c, of(append(l[:6:6], as('g', above, api.Max))...), nil, "abcdef")
	picks(t, "too much, and less", c, of(append(l[:6:6], as('g', above, api.Max), small)...), nil, "abcdefz")
	picks(t, "nothing beside", c, of(append(l[:6:6], as('g', below, api.Max), small)...), nil, "abcdefg")
	// It is not left again behind x: the last draw would fall on y then.
	other := as('y', wide(at[9:10], 1, 0), api.Max)
	third := as('x', wide(at[10:11], 1, 0), api.Max)
	w := uint64(262144)
	picks(t, "passed by for good", c, of(append(l[:6:6], as('g', above, api.Max), small, other, third)...), []uint64{0, 0, 0, 0, 0, 0, 0, 0, w}, "abcdefxzy")
	// By another draw it comes first, and others are passed by.
	picks(t, "first", c, of(append(l[:6:6], as('g', above, api.Max))...), []uint64{6 * w}, "gabcde")
}

// P21.2: 60 Ins may be spent, and not one more.
func TestPickSigs(t *testing.T) {
	c, at := parted(t, grown(t, 10), 1, 40, 100000)
	c, far := parted(t, c, 2, 40, 100000)
	spends := func(name byte, ins []api.Point) pool.Entry {
		return as(name, api.Tx{Ins: ins, Outs: outs(1)}, api.Max)
	}
	for i, x := range []struct {
		l    []pool.Entry
		want string
	}{
		{[]pool.Entry{spends('a', at), spends('b', far[:20])}, "ab"},
		{[]pool.Entry{spends('a', at), spends('b', far[:21])}, "a"},
		{[]pool.Entry{spends('a', far), spends('b', at[:21]), spends('c', at[20:])}, "ac"},
		{[]pool.Entry{spends('a', far), spends('b', at[:19]), spends('c', at[19:21]), spends('d', at[19:20])}, "abd"},
		{[]pool.Entry{spends('a', far), spends('b', at[:20]), spends('c', at[20:21]), as('d', secret(t, c, 5, 1), api.Max)}, "abd"},
	} {
		picks(t, i, c, of(x.l...), nil, x.want)
		b, e := template.Build(c, of(x.l...), key(1), 2, nil)
		if e != api.OK || block.Sigs(b) > 60 {
			t.Error(i, e, block.Sigs(b))
		}
	}
}

// P21.2: ten actions may be unpaid in all, as fees stand in the pool.
func TestPickUnpaid(t *testing.T) {
	c, at := parted(t, grown(t, 10), 1, 30, 100000)
	entry := func(name byte, n int, fee int64) pool.Entry {
		in := at[name-'a']
		return as(name, api.Tx{Ins: []api.Point{in}, Outs: make([]api.Out, n)}, fee)
	}
	for i, x := range []struct {
		l    []pool.Entry
		want string
	}{
		// Two are due at the least: two of each are unpaid.
		{[]pool.Entry{entry('a', 1, 0), entry('b', 1, 0), entry('c', 1, 4999), entry('d', 1, -7), entry('e', 2, 0), entry('f', 1, 0), entry('g', 1, 5000), entry('h', 2, 10000)}, "abcdeh"},
		// One each.
		{[]pool.Entry{entry('a', 1, 5000), entry('b', 1, 9999), entry('c', 8, 0), entry('d', 1, 9999), entry('e', 1, 10000), entry('f', 40, api.Max)}, "abcef"},
		{[]pool.Entry{entry('a', 9, 0), entry('b', 1, 0), entry('c', 1, 5000), entry('d', 1, 5000)}, "ac"},
		{[]pool.Entry{entry('a', 10, 0), entry('b', 1, 9999), entry('c', 1, 10000)}, "ac"},
		{[]pool.Entry{entry('a', 11, 0), entry('b', 1, 9999)}, "b"},
		{[]pool.Entry{entry('a', 11, 4999), entry('b', 11, 5000), entry('c', 1, 9999)}, "b"},
		{[]pool.Entry{entry('a', 40, 30*5000), entry('b', 1, 9999)}, "a"},
		{[]pool.Entry{entry('a', 40, 30*5000-1), entry('b', 1, 9999)}, "b"},
	} {
		picks(t, i, c, of(x.l...), nil, x.want)
	}
	// What is above the limit by itself is passed by, but waits, if its inputs are missing.
	bad := entry('b', 11, 0)
	// It weighs 1, as it pays nothing.
	p := of(entry('a', 1, 10000), bad, entry('c', 1, 10000), entry('d', 1, 10000))
	picks(t, "passed by", c, p, []uint64{65536, 0, 65536}, "adc")
	p.L[1].T.Ins = []api.Point{{Tx: key(9)}}
	picks(t, "waits", c, p, []uint64{65536, 0, 65536}, "acd")
}

// P21.2: of more than a thousand none is picked, as they can't be weighed; of a thousand all are.
func TestPickBound(t *testing.T) {
	c := grown(t, 10)
	l := []pool.Entry{as('a', pay(t, c, 1, 700), 10000)}
	for len(l) < 1000 {
		l = append(l, pool.Entry{Id: key('b', byte(len(l)), byte(len(l)>>8))})
	}
	if fees := picks(t, 1000, c, of(l...), []uint64{65540, 65560}, "a"); fees != 700 {
		t.Error(fees)
	}
	if fees := picks(t, 1001, c, of(append(l, pool.Entry{})...), nil, ""); fees != 0 {
		t.Error(fees)
	}
}

// P21.2: what is told as fees is what is paid, and no more than is taken.
func TestPickFees(t *testing.T) {
	c := grown(t, 10)
	for i, x := range []struct {
		l    []pool.Entry
		want int64
	}{
		{[]pool.Entry{as('a', pay(t, c, 1, 0), 10000)}, 0},
		{[]pool.Entry{as('a', pay(t, c, 1, 1), 10000)}, 1},
		{[]pool.Entry{as('a', pay(t, c, 1, api.Subsidy), 0)}, api.Subsidy},
		{[]pool.Entry{as('a', pay(t, c, 1, 5), 10000), as('b', pay(t, c, 2, 60), 7), as('c', pay(t, c, 9, 700), 10000)}, 65},
	} {
		if _, fees := template.Pick(c, of(x.l...), nil); fees != x.want {
			t.Error(i, fees)
		}
	}
}

// P21.3: each of the block's parts.
func TestBuild(t *testing.T) {
	c := connected(t, grown(t, 10), secret(t, grown(t, 10), 200, 3))
	note := pay(t, c, 2, 0)
	note.Notes, note.Outs, note.Balance = []api.Key{key(1), key(2)}, outs(1000), 20000-api.Subsidy
	p := of(as('c', pay(t, c, 1, 10000), 10000), as('b', secret(t, c, 4, 3), 0), as('a', note, 19000))
	for i, x := range []struct {
		p     pool.Pool
		draws []uint64
		lock  api.Key
		nonce uint32
		l     []int
		fees  int64
	}{
		{of(), nil, api.Key{}, 0, nil, 0},
		{of(), []uint64{7}, key(9, 9), math.MaxUint32, nil, 0},
		{p, nil, key(1), 5, []int{2, 1, 0}, 29000},
		{p, []uint64{math.MaxInt32, 0}, key(2), 6, nil, 29000},
		{of(p.L[0], as('a', api.Tx{}, 4)), nil, key(3), 7, []int{0}, 10000},
	} {
		l, fees := template.Pick(c, x.p, x.draws)
		for j, n := range x.l {
			if len(l) != len(x.l) || !tx.Same(l[j], x.p.L[n].T) {
				t.Fatal(i, l)
			}
		}
		b, e := template.Build(c, x.p, x.lock, x.nonce, x.draws)
		base := api.Tx{Ins: []api.Point{{Index: 12}}, Outs: []api.Out{{Value: 5000000 + x.fees, Lock: x.lock}}}
		want := api.Block{Prev: c.Tip, Root: root(t, c, l...), Nonce: x.nonce, Txs: append([]api.Tx{base}, l...)}
		if e != api.OK || fees != x.fees || !same(b, want) {
			t.Error(i, e, fees, b)
		}
		if _, e := chain.Connect(c, b, goods(l...)); e != api.OK {
			t.Error(i, e)
		}
	}
}

// P21.3: where the tree has no room for the notes, there is no block; without notes there is one.
func TestBuildFull(t *testing.T) {
	c := grown(t, 10)
	one, three := secret(t, c, 4, 1), secret(t, c, 5, 3)
	none := pay(t, c, 1, 10000)
	for i, x := range []struct {
		left uint32
		l    []api.Tx
		e    api.Errno
	}{
		{0, nil, api.OK},
		{0, []api.Tx{none}, api.OK},
		{0, []api.Tx{one}, api.ErrFull},
		{0, []api.Tx{none, one}, api.ErrFull},
		{1, []api.Tx{one, none}, api.OK},
		{1, []api.Tx{three}, api.ErrFull},
		{2, []api.Tx{three}, api.ErrFull},
		{3, []api.Tx{three}, api.OK},
		{3, []api.Tx{three, one}, api.ErrFull},
		{4, []api.Tx{three, one}, api.OK},
	} {
		d := c
		d.Tree.Count = math.MaxUint32 - x.left
		for n := range d.Tree.Parts {
			d.Tree.Parts[n] = key(byte(n), 3)
		}
		p := of()
		for n, y := range x.l {
			p.L = append(p.L, as(byte('a'+n), y, 10000))
		}
		b, e := template.Build(d, p, key(1), 2, nil)
		var want api.Block
		if x.e == api.OK {
			l, fees := template.Pick(d, p, nil)
			want = api.Block{Prev: d.Tip, Root: root(t, d, l...), Nonce: 2, Txs: append([]api.Tx{template.Base(11, key(1), fees)}, l...)}
		}
		if e != x.e || !same(b, want) {
			t.Error(i, e, b)
		}
	}
}

// P21.3: the height goes round behind the last one, the money too; a chain of nothing has its block.
func TestBuildOdd(t *testing.T) {
	for i, x := range []struct {
		c      chain.Chain
		height uint32
	}{
		{chain.Chain{}, 1},
		{chain.Chain{Height: math.MaxUint32, Tip: key(8)}, 0},
		{chain.Chain{Height: math.MaxUint32 - 1, Tip: key(8), Tree: tree.Tree{Count: 5}}, math.MaxUint32},
		{chain.Genesis(), 1},
	} {
		b, e := template.Build(x.c, of(), key(1), 2, nil)
		want := api.Block{Prev: x.c.Tip, Root: tree.Root(x.c.Tree), Nonce: 2, Txs: []api.Tx{template.Base(x.height, key(1), 0)}}
		if e != api.OK || !same(b, want) {
			t.Error(i, e, b)
		}
	}
}
