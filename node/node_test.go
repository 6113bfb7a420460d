package node_test

import (
	"math"
	"slices"
	"testing"

	"thurible/anchor"
	"thurible/api"
	"thurible/block"
	"thurible/chain"
	"thurible/node"
	"thurible/oracle"
	"thurible/pool"
	"thurible/recent"
	"thurible/tree"
	"thurible/tx"
)

// key is a key that begins by these bytes.
func key(l ...byte) (k api.Key) {
	copy(k[:], l)
	return k
}

// outs are outs of these values, each with a lock of its own.
func outs(values ...int64) []api.Out {
	var l []api.Out
	for i, v := range values {
		l = append(l, api.Out{Value: v, Lock: key(7, byte(i))})
	}
	return l
}

// id is x's; it has one.
func id(t *testing.T, x api.Tx) api.Key {
	t.Helper()
	k, e := tx.Id(x)
	if e != api.OK {
		t.Fatal("Id", e)
	}
	return k
}

// goods is verdicts that all of l is good, told without admit.
func goods(l ...api.Tx) []oracle.Verdict {
	var v []oracle.Verdict
	for _, x := range l {
		k, e := tx.Id(x)
		for i := range len(x.Ins) + len(x.Nulls) + len(x.Notes) {
			if e == api.OK {
				v = append(v, oracle.Verdict{Tx: k, Item: i, Good: true})
			}
		}
	}
	return v
}

// says is the bytes of a transaction.
func says(t *testing.T, x api.Tx) string {
	t.Helper()
	s, e := tx.Encode(x)
	if e != api.OK {
		t.Fatal("Encode", e)
	}
	return s
}

// reads is the bytes of a block.
func reads(t *testing.T, b api.Block) string {
	t.Helper()
	s, e := block.Encode(b)
	if e != api.OK {
		t.Fatal("Encode", e)
	}
	return s
}

// base is a coinbase.
func base(height uint32, value int64) api.Tx {
	return api.Tx{Ins: []api.Point{{Index: height}}, Outs: outs(value)}
}

// rooted is b with the root that it should have on c.
func rooted(t *testing.T, c chain.Chain, b api.Block) api.Block {
	t.Helper()
	u, e := tree.All(c.Tree, block.Notes(b))
	if e != api.OK {
		t.Fatal("All", e)
	}
	b.Root = tree.Root(u)
	return b
}

// next is the block behind c that has these, which may be.
func next(t *testing.T, c chain.Chain, l ...api.Tx) api.Block {
	t.Helper()
	w := chain.Start(c)
	for i, x := range l {
		var e api.Errno
		if w, _, e = chain.Add(w, x, goods(x)); e != api.OK {
			t.Fatal("Add", i, e)
		}
	}
	return rooted(t, c, api.Block{Prev: c.Tip, Txs: append([]api.Tx{base(c.Height+1, api.Subsidy+w.Fees)}, l...)})
}

// connected is n with a block of l behind.
func connected(t *testing.T, n node.Node, l ...api.Tx) node.Node {
	t.Helper()
	m, e := node.Connect(n, reads(t, next(t, n.C, l...)), goods(l...))
	if e != api.OK {
		t.Fatal("Connect", e)
	}
	return m
}

// grown is a node of so many blocks of coinbases alone.
func grown(t *testing.T, blocks int) node.Node {
	t.Helper()
	n := node.New()
	for range blocks {
		n = connected(t, n)
	}
	return n
}

// rich is n with something that was evicted just now, at a time that is none.
func rich(n node.Node) node.Node {
	n.P.R = []recent.Item{{Id: key(90), At: 3}, {Id: key(91), At: 95}}
	n.P.Now = 100
	return n
}

// submitted is n with each of l, none of which evicts anything.
func submitted(t *testing.T, n node.Node, l ...api.Tx) node.Node {
	t.Helper()
	for i, x := range l {
		m, gone, e := node.Submit(n, says(t, x), goods(x), nil)
		if e != api.OK || len(gone) != 0 {
			t.Fatal("Submit", i, gone, e)
		}
		n = m
	}
	return n
}

// pay spends the coin of the coinbase of a height, but for a fee.
func pay(t *testing.T, n node.Node, height uint32, fee int64) api.Tx {
	t.Helper()
	for _, x := range n.C.Coins {
		if x.Base && x.Height == height {
			return api.Tx{Ins: []api.Point{x.At}, Outs: outs(api.Subsidy - fee)}
		}
	}
	t.Fatal("no coin of", height)
	return api.Tx{}
}

// child spends the first out of x, of which this is left.
func child(t *testing.T, x api.Tx, left int64) api.Tx {
	t.Helper()
	return api.Tx{Ins: []api.Point{{Tx: id(t, x)}}, Outs: outs(left)}
}

// secret has such a nullifier, by the last root of n, and a note.
func secret(t *testing.T, n node.Node, k byte) api.Tx {
	t.Helper()
	root, is := anchor.Last(n.C.Ring)
	if !is {
		t.Fatal("no root")
	}
	return api.Tx{Nulls: []api.Key{key(k)}, Anchor: root, Notes: []api.Key{key(k, 1)}}
}

// entry is what x is in a pool.
func entry(t *testing.T, x api.Tx, fee int64) pool.Entry {
	t.Helper()
	return pool.Entry{T: x, Id: id(t, x), Fee: fee}
}

// waits holds that just these wait at n, in order.
func waits(t *testing.T, what any, n node.Node, want ...api.Tx) {
	t.Helper()
	var l []api.Key
	for _, x := range want {
		l = append(l, id(t, x))
	}
	if got := names(n.P); !slices.Equal(got, l) {
		t.Errorf("%v: %x, want %x", what, got, l)
	}
}

// names is the Ids of p's entries, in order.
func names(p pool.Pool) []api.Key {
	var l []api.Key
	for _, x := range p.L {
		l = append(l, x.Id)
	}
	return l
}

// P20.1: no block, and nothing waits; the only root is that of no notes.
func TestNew(t *testing.T) {
	root := tree.Empty()[api.Depth]
	want := node.Node{C: chain.Chain{Ring: anchor.Ring{L: []api.Key{root}}}}
	if n := node.New(); !same(n, want) {
		t.Error(n)
	}
}

// P20.1: the clock goes on, and stops at its last number; nothing else goes.
func TestTick(t *testing.T) {
	n := rich(grown(t, 6))
	n = submitted(t, n, pay(t, n, 1, 10000), pay(t, n, 2, 0))
	const last = math.MaxUint64
	for i, x := range []struct{ now, by, want uint64 }{
		{0, 0, 0}, {0, 1, 1}, {5, 6, 11}, {7, 0, 7}, {100, 60, 160},
		{1 << 63, 1<<63 - 2, last - 1}, {1 << 63, 1<<63 - 1, last}, {1 << 63, 1 << 63, last},
		{0, last, last}, {1, last - 1, last}, {1, last, last}, {2, last, last},
		{last - 1, 0, last - 1}, {last - 1, 1, last}, {last - 1, 2, last},
		{last, 0, last}, {last, 1, last}, {last, last, last},
	} {
		n.P.Now = x.now
		want := n
		want.P.Now = x.want
		if m := node.Tick(n, x.by); !same(m, want) {
			t.Error(i, m.P.Now)
		}
	}
}

// P20.2: what may wait stands behind, and the chain is as it was.
func TestSubmit(t *testing.T) {
	n := rich(grown(t, 8))
	a := pay(t, n, 1, 12345)
	want := n
	for i, x := range []pool.Entry{
		entry(t, a, 12345),
		entry(t, child(t, a, 1), api.Subsidy-12346),
		entry(t, secret(t, n, 4), 0),
		entry(t, pay(t, n, 2, 0), 0),
	} {
		m, gone, e := node.Submit(n, says(t, x.T), goods(x.T), []uint64{5})
		want.P.L = append(want.P.L, x)
		if e != api.OK || len(gone) != 0 || !same(m, want) {
			t.Fatal(i, gone, e)
		}
		n = m
	}
}

// P20.2: where there is no room who goes is told, by the draws that were handed in.
func TestSubmitEvicts(t *testing.T) {
	n := rich(grown(t, 10))
	a := pay(t, n, 1, 10000)
	n = submitted(t, n, a, child(t, a, 8))
	for h := range uint32(4) {
		n = submitted(t, n, pay(t, n, h+2, 10000))
	}
	x := pay(t, n, 6, 10000)
	order := append(names(n.P), id(t, x))
	slices.SortFunc(order, func(a, b api.Key) int { return slices.Compare(a[:], b[:]) })
	for i, k := range order {
		want := n
		want.P.L = nil
		var went []api.Key
		for _, y := range append(slices.Clone(n.P.L), entry(t, x, 10000)) {
			if y.Id == k || k == id(t, a) && y.Id == n.P.L[1].Id {
				went = append(went, y.Id)
				continue
			}
			want.P.L = append(want.P.L, y)
		}
		want.P.R = append(slices.Clone(n.P.R), recent.Item{Id: k, At: 100})
		m, gone, e := node.Submit(n, says(t, x), goods(x), []uint64{uint64(4000 * i), 3})
		if e != api.OK || !slices.Equal(gone, went) || !same(m, want) {
			t.Error(i, gone, e)
		}
	}
}

// unheard holds that s is refused with an error, and the node is as it was.
func unheard(t *testing.T, what any, n node.Node, s string, l []oracle.Verdict, want api.Errno) {
	t.Helper()
	m, gone, e := node.Submit(n, s, l, []uint64{1, 2})
	if e != want || len(gone) != 0 || !same(m, n) {
		t.Errorf("%v: %d, want %d (%d went)", what, e, want, len(gone))
	}
}

// P20.2: bytes that are no transaction, whatever the pool would say of what they begin by.
func TestSubmitBytes(t *testing.T) {
	n := rich(grown(t, 8))
	a := pay(t, n, 1, 10000)
	b := secret(t, n, 4)
	b.Ins, b.Outs = pay(t, n, 2, 0).Ins, outs(1, 2)
	n = submitted(t, n, a, b)
	for i, x := range []api.Tx{a, b, pay(t, n, 3, 10000), {}} {
		s := says(t, x)
		for k := range s {
			unheard(t, i, n, s[:k], goods(x), api.ErrShort)
		}
		for _, more := range []string{"x", "\x00", s} {
			unheard(t, i, n, s+more, goods(x), api.ErrMore)
		}
	}
	for _, x := range []struct {
		s string
		e api.Errno
	}{
		{"", api.ErrShort},
		{"\x00\x00\x00\x00\x29", api.ErrMany},
		{"\x00\x00\x00\x00\x00\x29", api.ErrMany},
		{"\x00\x00\x00\x00\xfd\x01\x00", api.ErrLong},
		{"\x00\x00\x00\x00\xfd\x01\x01", api.ErrMany},
		{"\x00\x00\x00\x00\x00\x00\xff", api.ErrShort},
	} {
		unheard(t, x.s, n, x.s, nil, x.e)
	}
}

// P20.2: the pool's errors.
func TestSubmitPool(t *testing.T) {
	n := rich(grown(t, 8))
	n = connected(t, n, secret(t, n, 70))
	a, s := pay(t, n, 1, 10000), secret(t, n, 4)
	n = submitted(t, n, a, s)
	low := pay(t, n, 2, 0)
	n.P.R = append(n.P.R, recent.Item{Id: id(t, low), At: 41})
	fights, spends := s, secret(t, n, 70)
	fights.Notes = []api.Key{key(99)}
	lost := secret(t, n, 5)
	lost.Anchor = key(1)
	soon, poor := pay(t, n, 3, 10000), pay(t, n, 3, 10000)
	soon.Expiry = n.C.Height + 3
	poor.Outs = make([]api.Out, 11)
	poor.Outs[0].Value = api.Subsidy
	more := pay(t, n, 3, -1)
	secretly := secret(t, n, 6)
	secretly.Balance, secretly.Outs = 1, outs(1)
	for i, x := range []struct {
		t api.Tx
		e api.Errno
	}{
		{api.Tx{}, api.ErrEmpty}, {base(10, 5), api.ErrCoin},
		{a, api.ErrTwice}, {s, api.ErrTwice}, {low, api.ErrEvict},
		{soon, api.ErrExpiry}, {pay(t, n, 1, 5), api.ErrFight}, {fights, api.ErrFight},
		{pay(t, n, 8, 10000), api.ErrInput}, {child(t, pay(t, n, 3, 0), 1), api.ErrInput},
		{spends, api.ErrSpent}, {lost, api.ErrAnchor}, {more, api.ErrMoney}, {secretly, api.ErrPool}, {poor, api.ErrFee},
	} {
		unheard(t, i, n, says(t, x.t), goods(x.t), x.e)
	}
	x := pay(t, n, 3, 10000)
	unheard(t, "no verdicts", n, says(t, x), nil, api.ErrProof)
	unheard(t, "another's verdicts", n, says(t, x), goods(a), api.ErrProof)
	// As soon as its time is over it comes again.
	unheard(t, "evicted", node.Tick(n, 0), says(t, low), goods(low), api.ErrEvict)
	submitted(t, node.Tick(n, 1), low)
	submitted(t, n, x)
}

// P20.3: the block stands behind the chain; who may still wait, waits, in order.
func TestConnect(t *testing.T) {
	n := rich(grown(t, 8))
	a, b, s := pay(t, n, 1, 10000), pay(t, n, 2, 9000), secret(t, n, 4)
	ends := pay(t, n, 3, 10000)
	ends.Expiry = 12
	n = submitted(t, n, a, child(t, a, 7), b, ends, s, child(t, child(t, a, 7), 3))
	for i, x := range []struct {
		l    []api.Tx
		left []int
	}{
		{nil, []int{0, 1, 2, 4, 5}},
		{[]api.Tx{a}, []int{1, 2, 4, 5}},
		{[]api.Tx{a, child(t, a, 7)}, []int{2, 4, 5}},
		{[]api.Tx{b}, []int{0, 1, 4, 5}},
		{[]api.Tx{ends}, []int{0, 1, 2, 4, 5}},
		{[]api.Tx{s}, []int{0, 1, 2, 5}},
		// Another one has spent what they spend, so that their children go, too.
		{[]api.Tx{pay(t, n, 1, 3)}, []int{2, 4}},
		{[]api.Tx{a, child(t, a, 8)}, []int{2, 4}},
		{pool.Txs(n.P), nil},
	} {
		bl := next(t, n.C, x.l...)
		c, e := chain.Connect(n.C, bl, goods(x.l...))
		if e != api.OK {
			t.Fatal(i, e)
		}
		want := node.Node{C: c, P: pool.Pool{R: n.P.R, Now: n.P.Now}}
		for _, k := range x.left {
			want.P.L = append(want.P.L, n.P.L[k])
		}
		if m, e := node.Connect(n, reads(t, bl), goods(x.l...)); e != api.OK || !same(m, want) {
			t.Error(i, e)
		}
	}
}

// P20.3: an anchor goes with the last of its four blocks.
func TestConnectAnchor(t *testing.T) {
	// Each block has a note, so that each has a root of its own.
	n := node.New()
	for k := range byte(6) {
		n = connected(t, n, secret(t, n, 100+k))
	}
	n = submitted(t, n, secret(t, n, 4))
	for k := range byte(6) {
		if len(n.P.L) == 1 != (k < 4) {
			t.Error(k, len(n.P.L))
		}
		n = connected(t, n, secret(t, n, 120+k))
	}
}

// P20.3: fees and names are told anew; nothing is evicted, however much there is, and the table of verdicts is the block's.
func TestConnectKeeps(t *testing.T) {
	n := rich(grown(t, 12))
	var want []pool.Entry
	for h := range uint32(9) {
		x := pay(t, n, h+1, int64(h))
		want = append(want, entry(t, x, int64(h)))
		n.P.L = append(n.P.L, pool.Entry{T: x, Id: key(byte(h)), Fee: -1})
		n.P.R = append(n.P.R, recent.Item{Id: id(t, x), At: 99})
	}
	m, e := node.Connect(n, reads(t, next(t, n.C)), nil)
	if e != api.OK || !same(m.P, pool.Pool{L: want, R: n.P.R, Now: 100}) || m.C.Height != 13 {
		t.Error(e, m.P)
	}
}

// closed holds that s is refused as a block with an error, and the node is as it was.
func closed(t *testing.T, what any, n node.Node, s string, l []oracle.Verdict, want api.Errno) {
	t.Helper()
	if m, e := node.Connect(n, s, l); e != want || !same(m, n) {
		t.Errorf("%v: %d, want %d", what, e, want)
	}
}

// P20.3: bytes that are no block, whatever the chain would say of what they begin by.
func TestConnectBytes(t *testing.T) {
	n := rich(grown(t, 8))
	a, s := pay(t, n, 1, 10000), secret(t, n, 4)
	n = submitted(t, n, a, s)
	good := next(t, n.C, a, s)
	lost := good
	lost.Prev = key(1)
	for i, b := range []api.Block{good, lost} {
		x := reads(t, b)
		for k := range x {
			closed(t, i, n, x[:k], goods(a, s), api.ErrShort)
		}
		for _, more := range []string{"x", "\x00", x} {
			closed(t, i, n, x+more, goods(a, s), api.ErrMore)
		}
		head := x[:68]
		closed(t, i, n, head+"\x00", nil, api.ErrEmpty)
		closed(t, i, n, head+"\x1f", nil, api.ErrMany)
		closed(t, i, n, head+"\xfd\x01\x00", nil, api.ErrLong)
		closed(t, i, n, head+"\x01\x00\x00\x00\x00\x29", nil, api.ErrMany)
	}
	closed(t, "nothing", n, "", nil, api.ErrShort)
}

// P20.3: the chain's errors.
func TestConnectChain(t *testing.T) {
	n := rich(grown(t, 8))
	n = connected(t, n, secret(t, n, 70))
	a, s := pay(t, n, 1, 10000), secret(t, n, 4)
	n = submitted(t, n, a, s)
	big := s
	big.Notes = make([]api.Key, 40)
	over := slices.Repeat([]api.Tx{big}, 16)
	first := base(10, api.Subsidy)
	late := pay(t, n, 2, 0)
	late.Expiry = 9
	lost := secret(t, n, 5)
	lost.Anchor = key(1)
	wide := secret(t, n, 6)
	wide.Balance, wide.Outs = 1, outs(1)
	for i, x := range []struct {
		b api.Block
		e api.Errno
	}{
		{api.Block{Txs: []api.Tx{first}}, api.ErrPrev},
		{api.Block{Prev: n.C.Tip, Txs: over}, api.ErrMany},
		{api.Block{Prev: n.C.Tip, Txs: []api.Tx{a}}, api.ErrCoin},
		{api.Block{Prev: n.C.Tip, Txs: []api.Tx{first, first}}, api.ErrCoin},
		{api.Block{Prev: n.C.Tip, Txs: []api.Tx{first, {}}}, api.ErrEmpty},
		{api.Block{Prev: n.C.Tip, Txs: []api.Tx{first, late}}, api.ErrExpiry},
		{api.Block{Prev: n.C.Tip, Txs: []api.Tx{first, a, a}}, api.ErrInput},
		{api.Block{Prev: n.C.Tip, Txs: []api.Tx{first, s, s}}, api.ErrSpent},
		{api.Block{Prev: n.C.Tip, Txs: []api.Tx{first, secret(t, n, 70)}}, api.ErrSpent},
		{api.Block{Prev: n.C.Tip, Txs: []api.Tx{first, lost}}, api.ErrAnchor},
		{api.Block{Prev: n.C.Tip, Txs: []api.Tx{first, pay(t, n, 2, -1)}}, api.ErrMoney},
		{api.Block{Prev: n.C.Tip, Txs: []api.Tx{first, wide}}, api.ErrPool},
		{api.Block{Prev: n.C.Tip, Txs: []api.Tx{first, a}}, api.ErrClaim},
		{api.Block{Prev: n.C.Tip, Txs: []api.Tx{first}}, api.ErrRoot},
	} {
		closed(t, i, n, reads(t, x.b), goods(x.b.Txs...), x.e)
	}
	good := next(t, n.C, a)
	closed(t, "no verdicts", n, reads(t, good), nil, api.ErrProof)
	if m, e := node.Connect(n, reads(t, good), goods(a)); e != api.OK {
		t.Error(e)
	} else {
		waits(t, "good", m, s)
		closed(t, "twice", m, reads(t, good), goods(a), api.ErrPrev)
	}
}
