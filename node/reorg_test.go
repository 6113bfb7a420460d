package node_test

import (
	"math"
	"slices"
	"testing"

	"thurible/api"
	"thurible/chain"
	"thurible/node"
	"thurible/oracle"
	"thurible/pool"
	"thurible/recent"
)

// reorged is n with so many blocks taken back, and others behind; nothing is evicted.
func reorged(t *testing.T, n node.Node, depth int, bs ...api.Block) node.Node {
	t.Helper()
	var l []string
	var all []api.Tx
	for _, b := range bs {
		l, all = append(l, reads(t, b)), append(all, b.Txs...)
	}
	m, gone, e := node.Reorg(n, depth, l, goods(all...), nil)
	if e != api.OK || len(gone) != 0 {
		t.Fatal("Reorg", gone, e)
	}
	if m.P.Now != n.P.Now || !slices.Equal(m.P.R, n.P.R) {
		t.Error(m.P.Now, m.P.R)
	}
	return m
}

// chained holds that n's chain is low, with these behind, but for how far it can be taken back.
func chained(t *testing.T, n node.Node, low chain.Chain, bs ...api.Block) {
	t.Helper()
	for _, b := range bs {
		var e api.Errno
		if low, e = chain.Connect(low, b, goods(b.Txs...)); e != api.OK {
			t.Fatal("Connect", e)
		}
	}
	c := n.C
	c.Past, low.Past = nil, nil
	if !same(c, low) {
		t.Error("another chain", c.Height, "want", low.Height)
	}
}

// P20.4: a block is taken back; what it had waits again, ahead of the others.
func TestReorg(t *testing.T) {
	low := rich(grown(t, 8))
	a, b, d := pay(t, low, 1, 10000), pay(t, low, 2, 9000), pay(t, low, 3, 10000)
	s, kid := secret(t, low, 4), child(t, a, 7)
	n := submitted(t, connected(t, low, a, s), b, kid)
	m := reorged(t, n, 1)
	waits(t, "back", m, a, s, b, kid)
	chained(t, m, low.C)
	if x := m.P.L[0]; !same(x, entry(t, a, 10000)) {
		t.Error(x)
	}
	for i, x := range []struct{ in, wait []api.Tx }{
		{nil, []api.Tx{a, s, b, kid}},
		{[]api.Tx{d}, []api.Tx{a, s, b, kid}},
		{[]api.Tx{a}, []api.Tx{s, b, kid}},
		{[]api.Tx{s}, []api.Tx{a, b, kid}},
		{[]api.Tx{b, a}, []api.Tx{s, kid}},
		{[]api.Tx{a, kid, s, b}, nil},
		// Another one has spent what a spends, so that its child goes, too.
		{[]api.Tx{pay(t, low, 1, 5)}, []api.Tx{s, b}},
		{[]api.Tx{pay(t, low, 2, 5)}, []api.Tx{a, s, kid}},
	} {
		other := next(t, low.C, x.in...)
		other.Nonce = 7
		m := reorged(t, n, 1, other)
		waits(t, i, m, x.wait...)
		chained(t, m, low.C, other)
	}
}

// P20.4: of several blocks, the oldest one's transactions first, and each block's in order.
func TestReorgOrder(t *testing.T) {
	low := rich(grown(t, 10))
	a, b, d, f := pay(t, low, 1, 10000), pay(t, low, 2, 10000), pay(t, low, 3, 10000), pay(t, low, 4, 10000)
	kid := child(t, a, 7)
	grandkid := child(t, kid, 5)
	one := connected(t, low, b, a)
	two := connected(t, one, kid, d)
	three := submitted(t, connected(t, two), grandkid, f)
	waits(t, 0, reorged(t, three, 0), grandkid, f)
	waits(t, 1, reorged(t, three, 1), grandkid, f)
	waits(t, 2, reorged(t, three, 2), kid, d, grandkid, f)
	waits(t, 3, reorged(t, three, 3), b, a, kid, d, grandkid, f)
	if m := reorged(t, three, 0); !same(m, three) {
		t.Error("a reorg of nothing")
	}
	chained(t, reorged(t, three, 3), low.C)
	// The other way: the blocks that come stand in their order.
	x := next(t, low.C, a)
	xs := connected(t, low, a)
	y := next(t, xs.C, kid, b)
	m := reorged(t, three, 3, x, y)
	waits(t, "two others", m, d, grandkid, f)
	chained(t, m, low.C, x, y)
	waits(t, "two behind", reorged(t, three, 0, next(t, three.C, f)), grandkid)
	// And back again.
	waits(t, "again", reorged(t, m, 2), a, kid, b, d, grandkid, f)
}

// P20.4: Undo blocks can be taken back, one more can't.
func TestReorgDeep(t *testing.T) {
	n := rich(grown(t, 9))
	a := pay(t, n, 1, 10000)
	low := n
	for _, l := range [][]api.Tx{{a}, nil, nil, nil} {
		n = connected(t, n, l...)
	}
	n = submitted(t, n, pay(t, low, 2, 10000))
	m := reorged(t, n, 4)
	chained(t, m, low.C)
	waits(t, "four", m, a, pay(t, low, 2, 10000))
	for _, depth := range []int{5, 6, math.MaxInt} {
		stays(t, depth, n, depth, nil, nil, api.ErrDeep)
		stays(t, depth, n, depth, []string{reads(t, next(t, low.C))}, nil, api.ErrDeep)
	}
	stays(t, "one more", m, 1, nil, nil, api.ErrDeep)
	stays(t, "none", node.New(), 1, nil, nil, api.ErrDeep)
	waits(t, "none", reorged(t, node.New(), 0))
}

// P20.4: what was taken back, but is not good any more, doesn't wait.
func TestReorgLost(t *testing.T) {
	low := rich(grown(t, 6))
	soon, late := pay(t, low, 1, 10000), pay(t, low, 2, 10000)
	soon.Expiry, late.Expiry = 9, 10
	poor := pay(t, low, 3, 0)
	poor.Outs = append(poor.Outs, make([]api.Out, 10)...)
	n := connected(t, low, soon, late, poor)
	waits(t, "expiry and fee", reorged(t, n, 1), late)
	// A coin of a coinbase that is no more, or is not ripe yet.
	of4 := pay(t, low, 4, 10000)
	n = connected(t, low, of4)
	waits(t, "ripe", reorged(t, n, 1), of4)
	waits(t, "unripe", reorged(t, n, 2))
	waits(t, "its coin", reorged(t, n, 4))
	waits(t, "for it waits", reorged(t, submitted(t, n, child(t, of4, 5)), 2))
	// A root that is no more, and one that is again.
	one := connected(t, low, secret(t, low, 4))
	s := secret(t, one, 5)
	two := connected(t, one, s)
	waits(t, "root", reorged(t, two, 1), s)
	waits(t, "no root", reorged(t, two, 2), secret(t, low, 4))
	waits(t, "no root waits", reorged(t, submitted(t, one, s), 1), secret(t, low, 4))
	again := next(t, low.C, secret(t, low, 4))
	again.Nonce = 3
	waits(t, "root again", reorged(t, two, 2, again), s)
}

// P20.4: verdicts are the blocks' alone: what waits again is as good as it was.
func TestReorgVerdicts(t *testing.T) {
	low := rich(grown(t, 8))
	a, b := pay(t, low, 1, 10000), pay(t, low, 2, 10000)
	n := submitted(t, connected(t, low, a), b)
	bad := goods(a)
	bad[0].Good = false
	empty, full := reads(t, next(t, low.C)), reads(t, next(t, low.C, b))
	for i, l := range [][]oracle.Verdict{nil, bad, goods(b)} {
		m, _, e := node.Reorg(n, 1, []string{empty}, l, nil)
		if e != api.OK {
			t.Fatal(i, e)
		}
		waits(t, i, m, a, b)
	}
	stays(t, "no verdicts", n, 1, []string{full}, goods(a), api.ErrProof)
}

// P20.4: first comes first: what fights it, or was there once more, goes. A pool may be odd.
func TestReorgFirst(t *testing.T) {
	low := rich(grown(t, 8))
	a, b := pay(t, low, 1, 10000), pay(t, low, 2, 10000)
	n := connected(t, low, a)
	for i, x := range []struct{ wait, want []api.Tx }{
		{[]api.Tx{pay(t, low, 1, 20000), b}, []api.Tx{a, b}},
		{[]api.Tx{b, a}, []api.Tx{a, b}},
		{[]api.Tx{b, b, base(3, 4), {}, base(9, api.Subsidy+10000)}, []api.Tx{a, b}},
		{[]api.Tx{child(t, a, 5), child(t, a, 6)}, []api.Tx{a, child(t, a, 5)}},
	} {
		m := n
		for _, y := range x.wait {
			m.P.L = append(slices.Clone(m.P.L), pool.Entry{T: y, Id: key(77), Fee: 3})
		}
		waits(t, i, reorged(t, m, 1), x.want...)
	}
	// What was evicted just now waits again, if its block is taken back.
	n.P.R = append(n.P.R, recent.Item{Id: id(t, a), At: 100})
	waits(t, "evicted just now", reorged(t, n, 1), a)
}

// P20.4: where there is no room, who goes is told draw by draw, and is refused for a while.
func TestReorgEvicts(t *testing.T) {
	low := rich(grown(t, 12))
	var first, then []api.Tx
	for h := range uint32(3) {
		first = append(first, pay(t, low, h+1, 10000))
		then = append(then, pay(t, low, h+4, 10000))
	}
	kid := child(t, first[0], 9)
	first = append(first, kid)
	n := submitted(t, connected(t, low, first...), then...)
	order := append(slices.Clone(first), then...)
	slices.SortFunc(order, func(a, b api.Tx) int {
		x, y := id(t, a), id(t, b)
		return slices.Compare(x[:], y[:])
	})
	all := append(slices.Clone(first), then...)
	for i, x := range order {
		m, gone, e := node.Reorg(n, 1, nil, nil, []uint64{uint64(4000 * i), 8})
		if e != api.OK {
			t.Fatal(i, e)
		}
		var left []api.Tx
		var went []api.Key
		for _, y := range all {
			k := id(t, y)
			if k == id(t, x) || k == id(t, kid) && id(t, x) == id(t, first[0]) {
				went = append(went, k)
				continue
			}
			left = append(left, y)
		}
		if !slices.Equal(gone, went) {
			t.Error(i, gone, "want", went)
		}
		waits(t, i, m, left...)
		chained(t, m, low.C)
		if want := append(slices.Clone(n.P.R), recent.Item{Id: id(t, x), At: 100}); !slices.Equal(m.P.R, want) {
			t.Error(i, m.P.R)
		}
		unheard(t, i, m, says(t, x), goods(x), api.ErrEvict)
	}
	// With no draw left it is 0; with one block more there is room.
	if _, gone, _ := node.Reorg(n, 1, nil, nil, nil); gone[0] != id(t, order[0]) {
		t.Error(gone)
	}
	if m := reorged(t, n, 1, next(t, low.C, first[1])); len(m.P.L) != 6 {
		t.Error(len(m.P.L))
	}
}

// stays holds that a reorg is refused with an error, and the node is as it was.
func stays(t *testing.T, what any, n node.Node, depth int, bs []string, l []oracle.Verdict, want api.Errno) {
	t.Helper()
	if m, gone, e := node.Reorg(n, depth, bs, l, []uint64{3}); e != want || len(gone) != 0 || !same(m, n) {
		t.Errorf("%v: %d, want %d (%d went)", what, e, want, len(gone))
	}
}

// P20.4: the first error of the bytes, in order, ahead of the chain's.
func TestReorgRefused(t *testing.T) {
	low := rich(grown(t, 8))
	a := pay(t, low, 1, 10000)
	n := submitted(t, connected(t, low, a), pay(t, low, 2, 10000))
	good := next(t, low.C, a)
	good.Nonce = 5
	other := connected(t, low, a)
	far := next(t, other.C)
	s, lost := reads(t, good), reads(t, far)
	empty := s[:68] + "\x00"
	claims := good
	claims.Txs = append([]api.Tx{base(9, api.Subsidy)}, a)
	roots := good
	roots.Root = key(1)
	for i, x := range []struct {
		depth int
		bs    []string
		e     api.Errno
	}{
		{1, []string{s[:80]}, api.ErrShort},
		{1, []string{s + "x"}, api.ErrMore},
		{1, []string{empty, s + "x"}, api.ErrEmpty},
		{1, []string{s + "x", empty}, api.ErrMore},
		{1, []string{s, lost, ""}, api.ErrShort},
		{1, []string{s, s[:68] + "\x1f", ""}, api.ErrMany},
		{-1, []string{s + "x"}, api.ErrMore},
		{9, []string{s, empty}, api.ErrEmpty},
		{-1, []string{lost}, api.ErrArg},
		{-1, nil, api.ErrArg},
		{math.MinInt, nil, api.ErrArg},
		{9, []string{s}, api.ErrDeep},
		{0, []string{s}, api.ErrPrev},
		{1, []string{lost}, api.ErrPrev},
		{1, []string{s, s}, api.ErrPrev},
		{1, []string{reads(t, claims)}, api.ErrClaim},
		{1, []string{reads(t, roots), ""}, api.ErrShort},
		{1, []string{reads(t, roots), s}, api.ErrRoot},
	} {
		stays(t, i, n, x.depth, x.bs, goods(a), x.e)
	}
	stays(t, "no verdicts", n, 1, []string{s}, nil, api.ErrProof)
	waits(t, "good", reorged(t, n, 1, good), pay(t, low, 2, 10000))
}
