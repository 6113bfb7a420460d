package fee_test

import (
	"math"
	"math/big"
	"math/rand"
	"reflect"
	"slices"
	"testing"

	"thurible/api"
	"thurible/fee"
)

// size is how long a transaction's lists are.
type size struct{ ins, outs, nulls, notes int }

// made is a transaction with lists of these lengths; a list of none is nil.
func made(s size) (t api.Tx) {
	for i := range s.ins {
		t.Ins = append(t.Ins, api.Point{Tx: api.Key{1}, Index: uint32(i)})
	}
	for i := range s.outs {
		t.Outs = append(t.Outs, api.Out{Value: int64(i), Lock: api.Key{2}})
	}
	for i := range s.nulls {
		t.Nulls = append(t.Nulls, api.Key{3, byte(i), byte(i >> 8)})
	}
	for i := range s.notes {
		t.Notes = append(t.Notes, api.Key{4, byte(i), byte(i >> 8)})
	}
	return t
}

// actions is P13.1's clause: a greater one is told by what of the other goes beyond it.
func (s size) actions() (n int) {
	for _, p := range [][2]int{{s.ins, s.outs}, {s.nulls, s.notes}} {
		n += p[0]
		if p[1] > p[0] {
			n += p[1] - p[0]
		}
	}
	return n
}

// conventional is P13.1's clause, of so many actions.
func conventional(actions int) int64 {
	if actions < 2 {
		return 10000
	}
	return int64(actions) * 5000
}

// clause is what P13.1 to P13.3 say of so many actions and a fee, in numbers without bounds.
func clause(actions int, paid int64) (unpaid int, weight int64, pays bool) {
	f := big.NewInt(paid)
	if f.Sign() < 0 {
		f.SetInt64(0)
	}
	if top := big.NewInt(2100000000000000); f.Cmp(top) > 0 {
		f.Set(top)
	}
	c := big.NewInt(conventional(actions))
	pays = f.Cmp(c) >= 0
	due := big.NewInt(max(int64(actions), 2))
	left := due.Sub(due, new(big.Int).Div(f, big.NewInt(5000)))
	if left.Sign() > 0 {
		unpaid = int(left.Int64())
	}
	if four := new(big.Int).Mul(big.NewInt(4), c); f.Cmp(four) > 0 {
		f = four
	}
	weight = f.Div(f.Mul(f, big.NewInt(65536)), c).Int64()
	return unpaid, max(weight, 1), pays
}

// sizes calls f with all sizes of up to four of each, with each list alone and long, and with any by chance.
func sizes(f func(size)) {
	for n := range 5 * 5 * 5 * 5 {
		f(size{n % 5, n / 5 % 5, n / 25 % 5, n / 125})
	}
	for _, n := range []int{5, 6, 7, 8, 39, 40, 41, 80, 255, 256, 257, 1000, 70000} {
		for _, s := range []size{{ins: n}, {outs: n}, {nulls: n}, {notes: n}, {n, n, n, n}, {n, n - 1, n - 1, n}, {n - 1, n, n, n - 1}, {ins: n, notes: n}, {outs: n, nulls: n}} {
			f(s)
		}
	}
	r := rand.New(rand.NewSource(13))
	for range 300 {
		f(size{r.Intn(45), r.Intn(45), r.Intn(45), r.Intn(45)})
	}
}

// fees is numbers about all those at which an answer of so many actions may change, with any by chance; they rise.
func fees(r *rand.Rand, actions int) (l []int64) {
	c := conventional(actions)
	middles := []int64{0, 5000, 10000, 15000, 65536, c / 65536, c / 4, c / 2, c - 5000, c, c + 5000, 2 * c, 4*c - 5000, 4 * c, 4*c + 5000, 8 * c, 2100000000000000, 1 << 31, 1 << 32, 1 << 47, 1 << 48, 1 << 62}
	for _, m := range middles {
		for d := int64(-2); d <= 2; d++ {
			l = append(l, m+d)
		}
	}
	for range 20 {
		l = append(l, r.Int63n(5*c), r.Int63n(2200000000000000), int64(r.Uint64()))
	}
	l = append(l, -c, -4*c, -5000, -65536, -2100000000000000, math.MinInt64, math.MinInt64+1, math.MaxInt64, math.MaxInt64-1)
	slices.Sort(l)
	return l
}

// cases calls f with transactions of all those sizes, and the fees of each.
func cases(f func(t api.Tx, actions int, l []int64)) {
	r := rand.New(rand.NewSource(1))
	sizes(func(s size) {
		n := s.actions()
		f(made(s), n, fees(r, n))
	})
}

// P13.1: each list alone, the greater one of two, and both pairs together; what an action is, and what it costs.
func TestActions(t *testing.T) {
	for _, x := range []struct {
		s            size
		actions      int
		conventional int64
	}{
		{size{}, 0, 10000},
		{size{ins: 1}, 1, 10000}, {size{outs: 1}, 1, 10000}, {size{nulls: 1}, 1, 10000}, {size{notes: 1}, 1, 10000},
		{size{1, 1, 0, 0}, 1, 10000}, {size{0, 0, 1, 1}, 1, 10000},
		{size{1, 0, 1, 0}, 2, 10000}, {size{0, 1, 0, 1}, 2, 10000}, {size{1, 0, 0, 1}, 2, 10000}, {size{0, 1, 1, 0}, 2, 10000}, {size{1, 1, 1, 1}, 2, 10000},
		{size{2, 0, 0, 0}, 2, 10000}, {size{0, 0, 0, 2}, 2, 10000}, {size{2, 2, 0, 0}, 2, 10000},
		{size{3, 0, 0, 0}, 3, 15000}, {size{0, 3, 0, 0}, 3, 15000}, {size{0, 0, 3, 0}, 3, 15000}, {size{0, 0, 0, 3}, 3, 15000},
		{size{2, 1, 1, 0}, 3, 15000}, {size{2, 3, 5, 4}, 8, 40000}, {size{3, 2, 4, 5}, 8, 40000}, {size{2, 3, 4, 5}, 8, 40000}, {size{3, 2, 5, 4}, 8, 40000},
		{size{40, 40, 40, 40}, 80, 400000}, {size{40, 0, 0, 40}, 80, 400000},
		// More than MaxItem is for check to refuse, not for this.
		{size{41, 0, 0, 0}, 41, 205000}, {size{0, 300, 300, 0}, 600, 3000000},
	} {
		y := made(x.s)
		if n, c := fee.Actions(y), fee.Conventional(y); n != x.actions || c != x.conventional {
			t.Error(x.s, n, c)
		}
	}
	sizes(func(s size) {
		y, want := made(s), s.actions()
		if n, c := fee.Actions(y), fee.Conventional(y); n != want || c != conventional(want) {
			t.Fatal(s, n, c)
		}
	})
}

// P13.1: it pays from Conventional on, at the very number.
func TestPays(t *testing.T) {
	three := size{ins: 3}
	for _, x := range []struct {
		s    size
		fee  int64
		pays bool
	}{
		{size{}, 9999, false}, {size{}, 10000, true}, {size{}, 10001, true},
		{size{ins: 1, outs: 1}, 0, false}, {size{ins: 1, outs: 1}, 5000, false}, {size{ins: 1, outs: 1}, 9999, false}, {size{ins: 1, outs: 1}, 10000, true},
		{three, 10000, false}, {three, 14999, false}, {three, 15000, true}, {three, 15001, true},
		{three, -1, false}, {three, -15000, false}, {three, math.MinInt64, false},
		{three, 2100000000000000, true}, {three, 2100000000000001, true}, {three, math.MaxInt64, true},
	} {
		if is := fee.Pays(made(x.s), x.fee); is != x.pays {
			t.Error(x.s, x.fee, is)
		}
	}
	cases(func(y api.Tx, actions int, l []int64) {
		for _, f := range l {
			if _, _, want := clause(actions, f); fee.Pays(y, f) != want {
				t.Fatal(actions, f, !want)
			}
		}
	})
}

// P13.2: each Marginal pays for one, and less than one for none; none is below 0.
func TestUnpaid(t *testing.T) {
	three := size{notes: 3}
	for _, x := range []struct {
		s   size
		fee int64
		n   int
	}{
		{size{}, 0, 2}, {size{}, 4999, 2}, {size{}, 5000, 1}, {size{}, 9999, 1}, {size{}, 10000, 0}, {size{}, 10001, 0},
		{size{ins: 1}, 0, 2}, {size{ins: 1}, 5000, 1}, {size{ins: 1}, 10000, 0},
		{three, 0, 3}, {three, 1, 3}, {three, 4999, 3}, {three, 5000, 2}, {three, 9999, 2}, {three, 10000, 1}, {three, 14999, 1}, {three, 15000, 0}, {three, 20000, 0},
		{three, -1, 3}, {three, -4999, 3}, {three, -5000, 3}, {three, -100000, 3}, {three, math.MinInt64, 3},
		{three, 2100000000000000, 0}, {three, 2100000000000001, 0}, {three, math.MaxInt64, 0},
		{size{40, 40, 40, 40}, 0, 80}, {size{40, 40, 40, 40}, 349999, 11}, {size{40, 40, 40, 40}, 350000, 10}, {size{40, 40, 40, 40}, 399999, 1},
	} {
		if n := fee.Unpaid(made(x.s), x.fee); n != x.n {
			t.Error(x.s, x.fee, n)
		}
	}
	cases(func(y api.Tx, actions int, l []int64) {
		for _, f := range l {
			want, _, _ := clause(actions, f)
			if n := fee.Unpaid(y, f); n != want {
				t.Fatal(actions, f, n, want)
			}
		}
	})
}

// P13.3: rounded down; 1 where it were 0; no more than four times what pays just Conventional.
func TestWeight(t *testing.T) {
	three, many := size{nulls: 3}, size{40, 40, 40, 40}
	for _, x := range []struct {
		s   size
		fee int64
		n   int64
	}{
		{size{}, 0, 1}, {size{}, 1, 6}, {size{}, 5000, 32768}, {size{}, 9999, 65529}, {size{}, 10000, 65536}, {size{}, 39999, 262137}, {size{}, 40000, 262144}, {size{}, 40001, 262144},
		{size{outs: 1}, 5000, 32768}, {size{outs: 1}, 10000, 65536},
		{three, 0, 1}, {three, 1, 4}, {three, 2, 8}, {three, 3, 13}, {three, 7500, 32768}, {three, 14999, 65531}, {three, 15000, 65536}, {three, 15001, 65540},
		{three, 59999, 262139}, {three, 60000, 262144}, {three, 60001, 262144}, {three, 75000, 262144},
		{three, -1, 1}, {three, -15000, 1}, {three, -60000, 1}, {three, math.MinInt64, 1},
		{three, 2100000000000000, 262144}, {three, 2100000000000001, 262144}, {three, 1 << 62, 262144}, {three, math.MaxInt64, 262144},
		{many, 0, 1}, {many, 1, 1}, {many, 6, 1}, {many, 7, 1}, {many, 12, 1}, {many, 13, 2}, {many, 400000, 65536}, {many, 1600000, 262144}, {many, 1600001, 262144},
	} {
		if n := fee.Weight(made(x.s), x.fee); n != x.n {
			t.Error(x.s, x.fee, n)
		}
	}
	cases(func(y api.Tx, actions int, l []int64) {
		for _, f := range l {
			_, want, _ := clause(actions, f)
			if n := fee.Weight(y, f); n != want {
				t.Fatal(actions, f, n, want)
			}
		}
	})
}

// P13.4: what pays has nothing unpaid, and what has nothing unpaid pays; fees that rise make nothing more unpaid, and nothing weigh less.
func TestRising(t *testing.T) {
	paid, owed := 0, 0
	cases(func(y api.Tx, actions int, l []int64) {
		unpaid, weight, pays := math.MaxInt, int64(1), false
		for _, f := range l {
			n, w, is := fee.Unpaid(y, f), fee.Weight(y, f), fee.Pays(y, f)
			if n > unpaid || w < weight || pays && !is || is != (n == 0) || is != (w >= 65536) {
				t.Fatal(actions, f, n, w, is)
			}
			unpaid, weight, pays = n, w, is
			if is {
				paid++
			} else {
				owed++
			}
		}
	})
	if paid == 0 || owed == 0 {
		t.Error(paid, owed)
	}
}

// P13.4: fees one by one, past all of those at which something changes.
func TestOneByOne(t *testing.T) {
	for _, s := range []size{{}, {ins: 3}, {1, 2, 1, 0}} {
		y := made(s)
		unpaid, weight := fee.Unpaid(y, -3), fee.Weight(y, -3)
		for f := int64(-2); f < 70000; f++ {
			n, w := fee.Unpaid(y, f), fee.Weight(y, f)
			if n > unpaid || w < weight || n == 0 != fee.Pays(y, f) {
				t.Fatal(s, f, n, w)
			}
			unpaid, weight = n, w
		}
	}
}

// answers is all that the calls answer of one transaction and fee.
type answers struct {
	actions, unpaid      int
	conventional, weight int64
	pays                 bool
}

func ask(t api.Tx, paid int64) answers {
	return answers{fee.Actions(t), fee.Unpaid(t, paid), fee.Conventional(t), fee.Weight(t, paid), fee.Pays(t, paid)}
}

// P13.1 to P13.3: lists' lengths alone count, not what is in them, nor the other fields; a coinbase is counted as others are.
func TestLengthsAlone(t *testing.T) {
	sizes(func(s size) {
		a := made(s)
		b := api.Tx{Expiry: 7, Anchor: api.Key{9}, Balance: -20000, Ins: make([]api.Point, s.ins, s.ins+3), Outs: make([]api.Out, s.outs, s.outs+3), Nulls: make([]api.Key, s.nulls, s.nulls+3), Notes: make([]api.Key, s.notes, s.notes+3)}
		for i := range b.Outs {
			b.Outs[i].Value = math.MinInt64
		}
		for _, f := range []int64{-1, 0, 1, 9999, 25000, math.MaxInt64} {
			if x, y := ask(a, f), ask(b, f); x != y {
				t.Fatal(s, f, x, y)
			}
		}
	})
}

// R3: what is handed in is not changed, and neither is what lies behind its lists' lengths; R5: what is asked again is answered so again.
func TestKept(t *testing.T) {
	whole := made(size{6, 7, 8, 9})
	part := api.Tx{Ins: whole.Ins[:3], Outs: whole.Outs[:2], Nulls: whole.Nulls[:1], Notes: whole.Notes[:4], Balance: 5}
	of := map[int64]answers{}
	l := fees(rand.New(rand.NewSource(5)), 7)
	for _, f := range l {
		of[f] = ask(part, f)
	}
	slices.Reverse(l)
	for _, f := range l {
		if a := ask(part, f); a != of[f] {
			t.Error(f, a, of[f])
		}
	}
	if !reflect.DeepEqual(whole, made(size{6, 7, 8, 9})) {
		t.Error("something changed")
	}
}
