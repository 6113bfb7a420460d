package money_test

import (
	"math"
	"math/big"
	"math/rand"
	"slices"
	"testing"

	"thurible/api"
	"thurible/money"
)

// amounts are the edges, and some between: what may be, what may not, and what goes round when two of it are added or taken off.
func amounts() []int64 {
	return []int64{
		math.MinInt64, math.MinInt64 + 1, math.MinInt64 + api.Max, -1 << 62, -2 * api.Max, -api.Max - 1, -api.Max, -api.Max + 1, -2, -1,
		0, 1, 2, 3, 5, 1000, api.Max / 2, api.Max/2 + 1, api.Max - 1, api.Max, api.Max + 1, 2 * api.Max, 1 << 62, math.MaxInt64 - api.Max, math.MaxInt64 - 1, math.MaxInt64,
	}
}

// exact is a number without bounds.
func exact(a int64) *big.Int {
	return big.NewInt(a)
}

// may is whether a number without bounds is 0 to Max.
func may(x *big.Int) bool {
	return x.Sign() >= 0 && x.Cmp(exact(api.Max)) <= 0
}

// answer is the last of these numbers, if all of them may be, and else ErrMoney.
func answer(l ...*big.Int) (int64, api.Errno) {
	for _, x := range l {
		if !may(x) {
			return 0, api.ErrMoney
		}
	}
	return l[len(l)-1].Int64(), api.OK
}

// added are the numbers of l, each one behind the sum up to it.
func added(l []int64) []*big.Int {
	total := new(big.Int)
	out := []*big.Int{total}
	for _, a := range l {
		total = new(big.Int).Add(total, exact(a))
		out = append(out, exact(a), total)
	}
	return out
}

// wantFee is Fee, as the document says it, by numbers without bounds.
func wantFee(ins, outs []int64, balance int64) (int64, api.Errno) {
	in, out := added(ins), added(outs)
	steps := append(slices.Clone(in), out...)
	size := new(big.Int).Abs(exact(balance))
	a, b := in[len(in)-1], out[len(out)-1]
	if balance >= 0 {
		a = new(big.Int).Add(a, size)
	} else {
		b = new(big.Int).Add(b, size)
	}
	return answer(append(steps, size, a, b, new(big.Int).Sub(a, b))...)
}

// same fails, unless a call answers as it should.
func same(t *testing.T, what string, args any, n int64, e api.Errno, wantN int64, wantE api.Errno) {
	t.Helper()
	if n != wantN || e != wantE {
		t.Errorf("%s of %v: %d, %d, not %d, %d", what, args, n, e, wantN, wantE)
	}
}

// P2.1: 0 to Max, both of them too.
func TestMay(t *testing.T) {
	for a, want := range map[int64]bool{
		0: true, 1: true, api.Max - 1: true, api.Max: true,
		-1: false, api.Max + 1: false, -api.Max: false, math.MinInt64: false, math.MaxInt64: false,
	} {
		if money.May(a) != want {
			t.Errorf("%d: not %t", a, want)
		}
	}
	for _, a := range amounts() {
		if money.May(a) != may(exact(a)) {
			t.Errorf("%d: not %t", a, may(exact(a)))
		}
	}
}

// P2.1: what is written out.
func TestAddExamples(t *testing.T) {
	for _, c := range []struct {
		a, b, want int64
		e          api.Errno
	}{
		{0, 0, 0, api.OK}, {3, 4, 7, api.OK}, {api.Max, 0, api.Max, api.OK}, {0, api.Max, api.Max, api.OK}, {api.Max - 1, 1, api.Max, api.OK},
		{api.Max, 1, 0, api.ErrMoney}, {1, api.Max, 0, api.ErrMoney}, {api.Max, api.Max, 0, api.ErrMoney},
		{-1, 1, 0, api.ErrMoney}, {2, -1, 0, api.ErrMoney}, {api.Max + 1, -1, 0, api.ErrMoney}, {-1, api.Max + 1, 0, api.ErrMoney},
		{math.MaxInt64, 1, 0, api.ErrMoney}, {math.MinInt64, math.MinInt64, 0, api.ErrMoney}, {math.MaxInt64, math.MaxInt64, 0, api.ErrMoney},
	} {
		n, e := money.Add(c.a, c.b)
		same(t, "Add", []int64{c.a, c.b}, n, e, c.want, c.e)
	}
}

// P2.1: the chapter's example, and others.
func TestSubExamples(t *testing.T) {
	for _, c := range []struct {
		a, b, want int64
		e          api.Errno
	}{
		{0, 0, 0, api.OK}, {5, 3, 2, api.OK}, {5, 5, 0, api.OK}, {api.Max, api.Max, 0, api.OK}, {api.Max, 0, api.Max, api.OK},
		{3, 5, 0, api.ErrMoney}, {0, 1, 0, api.ErrMoney}, {0, api.Max, 0, api.ErrMoney},
		{1, -1, 0, api.ErrMoney}, {-1, -1, 0, api.ErrMoney}, {-1, -2, 0, api.ErrMoney}, {api.Max + 1, 1, 0, api.ErrMoney}, {api.Max + 2, api.Max + 1, 0, api.ErrMoney},
		{0, math.MinInt64, 0, api.ErrMoney}, {math.MinInt64, 1, 0, api.ErrMoney}, {math.MinInt64, math.MaxInt64, 0, api.ErrMoney},
	} {
		n, e := money.Sub(c.a, c.b)
		same(t, "Sub", []int64{c.a, c.b}, n, e, c.want, c.e)
	}
}

// P2.1: all pairs of edges, against numbers that never go round.
func TestAddSub(t *testing.T) {
	for _, a := range amounts() {
		for _, b := range amounts() {
			x, y := exact(a), exact(b)
			n, e := money.Add(a, b)
			wantN, wantE := answer(x, y, new(big.Int).Add(x, y))
			same(t, "Add", []int64{a, b}, n, e, wantN, wantE)
			n, e = money.Sub(a, b)
			wantN, wantE = answer(x, y, new(big.Int).Sub(x, y))
			same(t, "Sub", []int64{a, b}, n, e, wantN, wantE)
		}
	}
}

// P2.2: no numbers, one, many, and those that may not be, in each place.
func TestSumExamples(t *testing.T) {
	for _, c := range []struct {
		l    []int64
		want int64
		e    api.Errno
	}{
		{nil, 0, api.OK}, {[]int64{}, 0, api.OK}, {[]int64{0}, 0, api.OK}, {[]int64{7}, 7, api.OK}, {[]int64{1, 2, 3}, 6, api.OK},
		{[]int64{api.Max}, api.Max, api.OK}, {[]int64{0, api.Max, 0}, api.Max, api.OK}, {[]int64{api.Max - 3, 1, 2}, api.Max, api.OK},
		{[]int64{api.Max - 3, 2, 2}, 0, api.ErrMoney}, {[]int64{api.Max + 1}, 0, api.ErrMoney}, {[]int64{-1}, 0, api.ErrMoney},
		{[]int64{-1, 2}, 0, api.ErrMoney}, {[]int64{2, -1}, 0, api.ErrMoney}, {[]int64{api.Max, 1, -1}, 0, api.ErrMoney},
		{[]int64{math.MaxInt64, math.MaxInt64, 2}, 0, api.ErrMoney}, {[]int64{math.MinInt64, math.MinInt64}, 0, api.ErrMoney},
	} {
		n, e := money.Sum(c.l)
		same(t, "Sum", c.l, n, e, c.want, c.e)
	}
}

// P2.2: so many great numbers that without bounds between they would come round to what may be.
func TestSumOfMany(t *testing.T) {
	// 2^16 numbers of 2^48 come to 2^64, which is 0 of 64 bits.
	n, e := money.Sum(slices.Repeat([]int64{1 << 48}, 1<<16))
	same(t, "Sum", "2^16 numbers of 2^48", n, e, 0, api.ErrMoney)
	n, e = money.Sum(slices.Repeat([]int64{api.Max / 1000}, 1000))
	same(t, "Sum", "1000 thousandths", n, e, api.Max, api.OK)
	n, e = money.Sum(append(slices.Repeat([]int64{api.Max / 1000}, 1000), 1))
	same(t, "Sum", "1000 thousandths and 1", n, e, 0, api.ErrMoney)
}

// P2.2: all lists of up to three edges, against numbers that never go round.
func TestSum(t *testing.T) {
	try := func(l ...int64) {
		n, e := money.Sum(l)
		wantN, wantE := answer(added(l)...)
		same(t, "Sum", l, n, e, wantN, wantE)
	}
	for _, a := range amounts() {
		try(a)
		for _, b := range amounts() {
			try(a, b)
			for _, c := range amounts() {
				try(a, b, c)
			}
		}
	}
}

// P2.3: what is written out.
func TestFeeExamples(t *testing.T) {
	for _, c := range []struct {
		ins, outs []int64
		balance   int64
		want      int64
		e         api.Errno
	}{
		{nil, nil, 0, 0, api.OK},
		{[]int64{10}, []int64{7}, 0, 3, api.OK},
		{[]int64{4, 6}, []int64{5, 5}, 0, 0, api.OK},
		{[]int64{10}, []int64{7, 4}, 0, 0, api.ErrMoney},
		// Out of secret.
		{nil, []int64{7}, 9, 2, api.OK},
		{[]int64{1}, []int64{7}, 6, 0, api.OK},
		{[]int64{1}, []int64{7}, 5, 0, api.ErrMoney},
		{nil, nil, api.Max, api.Max, api.OK},
		{nil, []int64{api.Max}, api.Max, 0, api.OK},
		{nil, nil, api.Max + 1, 0, api.ErrMoney},
		{nil, nil, math.MaxInt64, 0, api.ErrMoney},
		{[]int64{1}, []int64{5}, api.Max, 0, api.ErrMoney},
		// Into secret.
		{[]int64{10}, []int64{7}, -3, 0, api.OK},
		{[]int64{10}, []int64{7}, -2, 1, api.OK},
		{[]int64{10}, []int64{7}, -4, 0, api.ErrMoney},
		{[]int64{api.Max}, nil, -api.Max, 0, api.OK},
		{[]int64{api.Max}, nil, -api.Max - 1, 0, api.ErrMoney},
		{[]int64{api.Max}, []int64{1}, -api.Max, 0, api.ErrMoney},
		{nil, nil, -1, 0, api.ErrMoney},
		{nil, nil, math.MinInt64, 0, api.ErrMoney},
		{[]int64{api.Max}, nil, math.MinInt64, 0, api.ErrMoney},
		// Sums that may not be.
		{[]int64{-1}, nil, 5, 0, api.ErrMoney},
		{[]int64{5, -1}, nil, 0, 0, api.ErrMoney},
		{[]int64{5}, []int64{-1}, 0, 0, api.ErrMoney},
		{[]int64{5}, []int64{-1}, -1, 0, api.ErrMoney},
		{[]int64{api.Max, 1}, []int64{2}, 0, 0, api.ErrMoney},
		{[]int64{api.Max, 1}, nil, -2, 0, api.ErrMoney},
		{[]int64{api.Max}, []int64{api.Max, 1}, api.Max, 0, api.ErrMoney},
	} {
		n, e := money.Fee(c.ins, c.outs, c.balance)
		same(t, "Fee", []any{c.ins, c.outs, c.balance}, n, e, c.want, c.e)
	}
}

// P2.3: the edges as ins, outs and balance, against numbers that never go round.
func TestFee(t *testing.T) {
	lists := [][]int64{nil}
	for _, a := range amounts() {
		lists = append(lists, []int64{a}, []int64{a, 1}, []int64{2, a}, []int64{api.Max - 2, a})
	}
	for _, ins := range lists {
		for _, outs := range lists {
			for _, balance := range amounts() {
				n, e := money.Fee(ins, outs, balance)
				wantN, wantE := wantFee(ins, outs, balance)
				same(t, "Fee", []any{ins, outs, balance}, n, e, wantN, wantE)
			}
		}
	}
}

// P2.4: a sum that may be is the same in any order, and one that may not is refused in any.
func TestSumInAnyOrder(t *testing.T) {
	r := rand.New(rand.NewSource(2))
	for range 500 {
		l := make([]int64, 1+r.Intn(8))
		for i := range l {
			l[i] = r.Int63n(api.Max / 3)
		}
		if r.Intn(4) == 0 {
			l[0] = amounts()[r.Intn(len(amounts()))]
		}
		want, wantE := money.Sum(l)
		for range 10 {
			other := slices.Clone(l)
			r.Shuffle(len(other), func(i, j int) { other[i], other[j] = other[j], other[i] })
			n, e := money.Sum(other)
			same(t, "Sum", other, n, e, want, wantE)
		}
	}
}

// P2.4: nothing that is told is above Max, or below 0, whatever 64 bits are handed in.
func TestNothingBeyond(t *testing.T) {
	r := rand.New(rand.NewSource(3))
	some := func() int64 {
		// Shifted, so that numbers of all sizes come, and both signs.
		return int64(r.Uint64()) >> r.Intn(64)
	}
	check := func(what string, n int64, e api.Errno) {
		if n < 0 || n > api.Max || e != api.OK && n != 0 || e != api.OK && e != api.ErrMoney {
			t.Errorf("%s: %d, %d", what, n, e)
		}
	}
	for range 20000 {
		a, b, c := some(), some(), some()
		n, e := money.Add(a, b)
		check("Add", n, e)
		n, e = money.Sub(a, b)
		check("Sub", n, e)
		n, e = money.Sum([]int64{a, b, c})
		check("Sum", n, e)
		n, e = money.Fee([]int64{a}, []int64{b}, c)
		check("Fee", n, e)
	}
}

// R3: a list is left as it was, and so is what lies behind its length, whether the call errs or not.
func TestListsAreLeft(t *testing.T) {
	for _, first := range []int64{1, -1} {
		whole := []int64{first, 2, 3, 4, 5, 6}
		was := slices.Clone(whole)
		money.Sum(whole[:3])
		money.Fee(whole[:3], whole[3:5], 1)
		money.Fee(whole[:3], whole[3:5], -1)
		if !slices.Equal(whole, was) {
			t.Errorf("%v, not %v", whole, was)
		}
	}
}

// R5: an error is of its own call only.
func TestAgain(t *testing.T) {
	for range 3 {
		n, e := money.Sub(3, 5)
		same(t, "Sub", []int64{3, 5}, n, e, 0, api.ErrMoney)
		n, e = money.Sub(5, 3)
		same(t, "Sub", []int64{5, 3}, n, e, 2, api.OK)
	}
}
