package cost_test

import (
	"math"
	"math/big"
	"math/rand"
	"reflect"
	"slices"
	"testing"

	"thurible/api"
	"thurible/cost"
)

// size is how long a transaction's lists are.
type size struct{ ins, outs, nulls, notes int }

// made is a transaction with lists of these lengths; a list of none is nil.
func made(s size) (t api.Tx) {
	for i := range s.ins {
		t.Ins = append(t.Ins, api.Point{Tx: api.Key{1}, Index: uint32(i)})
	}
	for i := range s.outs {
		t.Outs = append(t.Outs, api.Out{Value: int64(i), Lock: api.Key{2}})
	}
	for i := range s.nulls {
		t.Nulls = append(t.Nulls, api.Key{3, byte(i)})
	}
	for i := range s.notes {
		t.Notes = append(t.Notes, api.Key{4, byte(i)})
	}
	return t
}

// bytes is how many bytes a transaction of this size has, counted by P5.1's clause; 0, if it has too many of something.
func (s size) bytes() int64 {
	if max(s.ins, s.outs, s.nulls, s.notes) > 40 {
		return 0
	}
	n := 16 + 36*s.ins + 40*s.outs + 32*s.nulls + 32*s.notes
	if s.nulls > 0 {
		n += 32
	}
	return int64(n)
}

// cost is P14.1's clause.
func (s size) cost() int64 {
	n := s.bytes()
	if n < 4000 {
		n = 4000
	}
	return n
}

// should is what a transaction of this size should pay: P13.1's clause.
func (s size) should() int64 {
	return 5000 * int64(max(2, max(s.ins, s.outs)+max(s.nulls, s.notes)))
}

// sizes calls f with sizes of few and of many of each, about all edges, and with any by chance.
func sizes(f func(size)) {
	l := []int{0, 1, 2, 39, 40, 41}
	for n := range len(l) * len(l) * len(l) * len(l) {
		f(size{l[n%6], l[n/6%6], l[n/36%6], l[n/216]})
	}
	// About 4000 bytes a size goes by four.
	for ins := range 41 {
		for outs := range 41 {
			for _, nulls := range []int{0, 1, 36, 40} {
				for notes := range 41 {
					s := size{ins, outs, nulls, notes}
					if n := s.bytes(); n > 3990 && n < 4010 {
						f(s)
					}
				}
			}
		}
	}
	r := rand.New(rand.NewSource(14))
	for range 500 {
		f(size{r.Intn(43), r.Intn(43), r.Intn(43), r.Intn(43)})
	}
}

// P14.1: 4000 up to so many bytes, the bytes from there on; 4000 of what has no bytes, too.
func TestCost(t *testing.T) {
	for _, x := range []struct {
		s    size
		cost int64
	}{
		{size{}, 4000}, {size{ins: 1, outs: 1}, 4000}, {size{ins: 40}, 4000}, {size{40, 40, 0, 0}, 4000},
		{size{1, 37, 36, 40}, 4000}, {size{0, 38, 36, 40}, 4000}, {size{1, 38, 35, 40}, 4004}, {size{0, 38, 37, 40}, 4032},
		{size{40, 40, 0, 40}, 4336}, {size{40, 40, 40, 0}, 4368}, {size{0, 40, 40, 40}, 4208}, {size{40, 0, 40, 40}, 4048}, {size{40, 40, 40, 40}, 5648},
		{size{41, 40, 40, 40}, 4000}, {size{40, 41, 40, 40}, 4000}, {size{40, 40, 41, 40}, 4000}, {size{40, 40, 40, 41}, 4000}, {size{300, 300, 300, 300}, 4000},
	} {
		if n := cost.Cost(made(x.s)); n != x.cost {
			t.Error(x.s, n, x.cost)
		}
	}
	at := map[int64]int{}
	sizes(func(s size) {
		at[s.bytes()]++
		if n := cost.Cost(made(s)); n != s.cost() {
			t.Fatal(s, n, s.cost())
		}
	})
	for _, n := range []int64{0, 3996, 4000, 4004} {
		if at[n] == 0 {
			t.Error("no size of bytes", n)
		}
	}
}

// P14.1: bytes alone count, not what they say; an anchor without nullifiers has no bytes.
func TestCostOfBytes(t *testing.T) {
	s := size{40, 40, 0, 40}
	y := made(s)
	y.Expiry, y.Balance = math.MaxUint32, math.MinInt64
	for i := range y.Outs {
		y.Outs[i].Value = math.MinInt64
	}
	if n := cost.Cost(y); n != 4336 {
		t.Error(n)
	}
	y.Anchor = api.Key{31: 1}
	if n, w := cost.Cost(y), cost.Weight(y, 0); n != 4000 || w != 20000 {
		t.Error(n, w)
	}
	y.Nulls = make([]api.Key, 1)
	if n, w := cost.Cost(y), cost.Weight(y, 0); n != 4400 || w != 20400 {
		t.Error(n, w)
	}
	coinbase := api.Tx{Ins: make([]api.Point, 1), Outs: make([]api.Out, 40), Notes: make([]api.Key, 40), Nulls: make([]api.Key, 40)}
	if n, w := cost.Cost(coinbase), cost.Weight(coinbase, 0); n != 4244 || w != 20244 {
		t.Error("a coinbase costs what others cost", n, w)
	}
}

// P14.1: what pays weighs its cost, what doesn't 16000 more, at the very fee.
func TestWeight(t *testing.T) {
	three, many, none := size{ins: 3}, size{40, 40, 40, 40}, size{41, 0, 0, 40}
	for _, x := range []struct {
		s    size
		fee  int64
		want int64
	}{
		{size{}, 0, 20000}, {size{}, 5000, 20000}, {size{}, 9999, 20000}, {size{}, 10000, 4000}, {size{}, 10001, 4000},
		{three, 10000, 20000}, {three, 14999, 20000}, {three, 15000, 4000}, {three, 1000000, 4000},
		{three, -1, 20000}, {three, -15000, 20000}, {three, math.MinInt64, 20000}, {three, 2100000000000000, 4000}, {three, 2100000000000001, 4000}, {three, math.MaxInt64, 4000},
		{many, 0, 21648}, {many, 399999, 21648}, {many, 400000, 5648}, {many, math.MaxInt64, 5648},
		{none, 404999, 20000}, {none, 405000, 4000},
	} {
		if n := cost.Weight(made(x.s), x.fee); n != x.want {
			t.Error(x.s, x.fee, n, x.want)
		}
	}
	sizes(func(s size) {
		y, c := made(s), s.should()
		for _, f := range []int64{math.MinInt64, -c, -1, 0, 1, 5000, 9999, 10000, c - 5000, c - 1, c, c + 1, 2 * c, 2100000000000000, 2100000000000001, math.MaxInt64} {
			want := s.cost()
			if f < c {
				want += 16000
			}
			if n := cost.Weight(y, f); n != want {
				t.Fatal(s, f, n, want)
			}
		}
	})
}

// all is n times the weight w.
func all(n int, w int64) []int64 {
	return slices.Repeat([]int64{w}, n)
}

// clauseSum is P14.2's clause of Sum, in numbers without bounds.
func clauseSum(l []int64) (int64, bool) {
	if len(l) > 1000 {
		return 0, false
	}
	n := new(big.Int)
	for _, w := range l {
		if w <= 0 || w > 1099511627776 {
			return 0, false
		}
		n.Add(n, big.NewInt(w))
	}
	return n.Int64(), n.IsInt64()
}

// clausePick is P14.2's clause of Pick, in numbers without bounds: what is left of the draw is handed on from place to place.
func clausePick(l []int64, draw uint64) (int, bool) {
	sum, is := clauseSum(l)
	if !is || len(l) == 0 {
		return 0, false
	}
	left := new(big.Int).SetUint64(draw)
	left.Mod(left, big.NewInt(sum))
	for i, w := range l {
		if left.Cmp(big.NewInt(w)) < 0 {
			return i, true
		}
		left.Sub(left, big.NewInt(w))
	}
	return 0, false
}

// draws is numbers about all those at which a pick may change, and about the greatest ones, with any by chance.
func draws(r *rand.Rand, l []int64) []uint64 {
	sum, _ := clauseSum(l)
	whole := max(uint64(sum), 1)
	top := math.MaxUint64 / whole * whole
	middles := []uint64{0, whole, 2 * whole, 1 << 31, 1 << 32, 1 << 40, 1 << 50, 1 << 53, 1 << 63, (1 << 63) / whole * whole, top - whole, top, math.MaxUint64}
	var edge uint64
	for range 3 {
		if len(l) > 0 {
			edge = 0
			for _, w := range l[:r.Intn(len(l))+1] {
				edge += uint64(w)
			}
			middles = append(middles, edge, edge+whole, top-whole+edge)
		}
	}
	var d []uint64
	for _, m := range middles {
		d = append(d, m-2, m-1, m, m+1, m+2)
	}
	for range 10 {
		d = append(d, r.Uint64(), uint64(r.Int63n(1<<50)))
	}
	return d
}

// may calls f with lists of weights that may be.
func may(f func([]int64)) {
	r := rand.New(rand.NewSource(2))
	for n := range 6 * 6 * 6 * 6 { // all of up to four places of up to five
		var l []int64
		for k := n; k > 0; k /= 6 {
			if k%6 > 0 {
				l = append(l, int64(k%6))
			}
		}
		f(l)
	}
	for _, l := range [][]int64{{1 << 40}, {1<<40 - 1}, {1, 1 << 40}, {1 << 40, 1}, {4000, 20000, 4000, 5648}, all(999, 1), all(1000, 1), all(999, 1<<40), all(1000, 1<<40)} {
		f(l)
	}
	for range 300 {
		l := make([]int64, []int{1, 2, 3, 7, 30, 300, 1000}[r.Intn(7)])
		for i := range l {
			l[i] = 1 + r.Int63n(1<<r.Intn(41))
		}
		f(l)
	}
}

// mayNot calls f with lists of weights that may not be.
func mayNot(f func([]int64)) {
	for _, l := range [][]int64{all(1001, 1), all(1001, 0), all(1001, 1<<40), all(2000, 1), all(70000, 3), all(65536, 1), all(65537, 1)} {
		f(l)
	}
	for _, w := range []int64{0, -1, -2, 1<<40 + 1, 1 << 41, 1 << 62, math.MaxInt64, math.MaxInt64 - 1, math.MinInt64, math.MinInt64 + 1, -(1 << 40), 1<<32 - 1<<40} {
		for n := 1; n <= 4; n++ {
			for i := range n {
				l := all(n, 5)
				l[i] = w
				f(l)
			}
			f(all(n, w))
		}
		l := all(1000, 7)
		l[999] = w
		f(l)
		// Others make up for it: the sum is one that could be.
		f([]int64{w, 1 - w})
		f([]int64{1000, w, 1000})
	}
}

// P14.2: Sum of those that may be, at the edges of their number and of each.
func TestSum(t *testing.T) {
	for _, x := range []struct {
		l   []int64
		sum int64
		is  bool
	}{
		{nil, 0, true}, {[]int64{}, 0, true}, {[]int64{1}, 1, true}, {[]int64{2, 3}, 5, true}, {[]int64{4000, 20000, 4000}, 28000, true},
		{[]int64{0}, 0, false}, {[]int64{2, 0}, 0, false}, {[]int64{0, 2}, 0, false}, {[]int64{-1}, 0, false}, {[]int64{5, -1}, 0, false}, {[]int64{5, -1, 5}, 0, false},
		{[]int64{1 << 40}, 1 << 40, true}, {[]int64{1<<40 + 1}, 0, false}, {[]int64{1, 1<<40 + 1}, 0, false}, {[]int64{math.MaxInt64, math.MaxInt64, 3}, 0, false},
		{all(1000, 1), 1000, true}, {all(1001, 1), 0, false}, {all(1000, 1<<40), 1000 << 40, true}, {all(1001, 1<<40), 0, false},
	} {
		if n, is := cost.Sum(x.l); n != x.sum || is != x.is {
			t.Error(len(x.l), x.l[:min(len(x.l), 3)], n, is)
		}
	}
	for _, lists := range []func(func([]int64)){may, mayNot} {
		lists(func(l []int64) {
			want, ok := clauseSum(l)
			if n, is := cost.Sum(l); n != want || is != ok {
				t.Fatal(len(l), l[:min(len(l), 5)], n, is, want, ok)
			}
		})
	}
}

// P14.2: the first place whose sum is above the draw's rest.
func TestPick(t *testing.T) {
	for _, x := range []struct {
		l    []int64
		draw uint64
		i    int
		is   bool
	}{
		{nil, 0, 0, false}, {nil, 3, 0, false}, {[]int64{}, math.MaxUint64, 0, false},
		{[]int64{2, 3}, 0, 0, true}, {[]int64{2, 3}, 1, 0, true}, {[]int64{2, 3}, 2, 1, true}, {[]int64{2, 3}, 4, 1, true}, {[]int64{2, 3}, 5, 0, true}, {[]int64{2, 3}, 6, 0, true}, {[]int64{2, 3}, 7, 1, true},
		{[]int64{1}, 0, 0, true}, {[]int64{1}, 1, 0, true}, {[]int64{1}, math.MaxUint64, 0, true},
		{[]int64{1, 1, 1}, 2, 2, true}, {[]int64{1, 1, 1}, 3, 0, true}, {[]int64{1, 1, 1}, 1 << 63, 2, true}, {[]int64{1, 1, 1}, math.MaxUint64, 0, true},
		{[]int64{2, 3, 1}, 1 << 63, 1, true}, {[]int64{2, 3, 1}, math.MaxUint64, 1, true}, {[]int64{2, 3, 1}, math.MaxUint64 - 3, 0, true}, {[]int64{2, 3, 1}, math.MaxUint64 - 4, 2, true},
		{[]int64{0}, 0, 0, false}, {[]int64{2, 3, 0}, 0, 0, false}, {[]int64{2, 3, -1}, 2, 0, false}, {[]int64{2, 3, 1<<40 + 1}, 2, 0, false}, {[]int64{-2, 3}, 0, 0, false},
		{all(1000, 1), 999, 999, true}, {all(1000, 1), 1000, 0, true}, {all(1001, 1), 5, 0, false},
		{all(1000, 1<<40), 1000<<40 - 1, 999, true}, {all(1000, 1<<40), 1000 << 40, 0, true}, {all(1000, 1<<40), 999 << 40, 999, true}, {all(1000, 1<<40), 999<<40 - 1, 998, true},
	} {
		if i, is := cost.Pick(x.l, x.draw); i != x.i || is != x.is {
			t.Error(len(x.l), x.l[:min(len(x.l), 3)], x.draw, i, is)
		}
	}
	r := rand.New(rand.NewSource(3))
	for _, lists := range []func(func([]int64)){may, mayNot} {
		lists(func(l []int64) {
			for _, d := range draws(r, l) {
				want, ok := clausePick(l, d)
				if i, is := cost.Pick(l, d); i != want || is != ok {
					t.Fatal(len(l), l[:min(len(l), 5)], d, i, is, want, ok)
				}
			}
		})
	}
}

// picked is how many of the draws from first on, as many as the sum of l, fall on each place.
func picked(t *testing.T, l []int64, first uint64) []int64 {
	n := make([]int64, len(l))
	sum, _ := cost.Sum(l)
	for d := range uint64(sum) {
		i, is := cost.Pick(l, first+d)
		if !is || i < 0 || i >= len(l) {
			t.Fatal(l, first+d, i, is)
		}
		n[i]++
	}
	return n
}

// P14.3: each place is picked by as many draws as it weighs, below the sum and in each round behind it.
func TestEachByItsWeight(t *testing.T) {
	may(func(l []int64) {
		sum, _ := cost.Sum(l)
		if sum > 3000 {
			return
		}
		for _, first := range []uint64{0, uint64(sum), 1 << 40, 1<<63 - uint64(sum)/2} {
			if n := picked(t, l, first); !slices.Equal(n, l) {
				t.Fatal(l, first, n)
			}
		}
	})
	if l := []int64{4000, 20000, 4000, 5648}; !slices.Equal(picked(t, l, 0), l) {
		t.Error(l)
	}
}

// P14.3: of weights of any size the draws of a place lie side by side, from the sum ahead of it to the one with it.
func TestEdges(t *testing.T) {
	may(func(l []int64) {
		var from uint64
		for i, w := range l {
			first, _ := cost.Pick(l, from)
			last, _ := cost.Pick(l, from+uint64(w)-1)
			if first != i || last != i {
				t.Fatal(len(l), i, w, first, last)
			}
			from += uint64(w)
		}
		if sum, is := cost.Sum(l); uint64(sum) != from || !is {
			t.Fatal(len(l), sum, is, from)
		}
	})
}

// R3: what is handed in is not changed, and neither is what lies behind its lists' lengths.
func TestKept(t *testing.T) {
	whole := made(size{6, 7, 8, 9})
	part := api.Tx{Ins: whole.Ins[:3], Outs: whole.Outs[:2], Nulls: whole.Nulls[:1], Notes: whole.Notes[:4], Balance: 5}
	cost.Cost(part)
	cost.Weight(part, 3)
	if !reflect.DeepEqual(whole, made(size{6, 7, 8, 9})) {
		t.Error("a transaction changed")
	}
	l := []int64{3, 1, 2, 0, -1, 9}
	for n := range len(l) + 1 {
		cost.Sum(l[:n])
		cost.Pick(l[:n], 4)
	}
	if !slices.Equal(l, []int64{3, 1, 2, 0, -1, 9}) {
		t.Error(l)
	}
}

// R5: what was told before changes no answer, and what is changed behind an answer does not change it.
func TestAgain(t *testing.T) {
	l := []int64{2, 3, 1}
	for range 3 {
		if n, is := cost.Sum(l); n != 6 || !is {
			t.Error(n, is)
		}
		if i, is := cost.Pick(l, 5); i != 2 || !is {
			t.Error(i, is)
		}
		l[0] = 0
		if n, is := cost.Sum(l); n != 0 || is {
			t.Error(n, is)
		}
		if i, is := cost.Pick(l, 5); i != 0 || is {
			t.Error(i, is)
		}
		l[0] = 2
	}
}
