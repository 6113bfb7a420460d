package check_test

import (
	"fmt"
	"math"
	"math/rand"
	"slices"
	"testing"

	"thurible/api"
	"thurible/check"
)

// key is a key that begins by these bytes.
func key(l ...byte) (k api.Key) {
	copy(k[:], l)
	return k
}

// point is the first out of a transaction.
func point(tx byte) api.Point {
	return api.Point{Tx: key(tx)}
}

// plain is a transaction without secrets that may be.
func plain() api.Tx {
	return api.Tx{Expiry: 7, Ins: []api.Point{point(1), point(2)}, Outs: []api.Out{{Value: 5, Lock: key(9)}, {Value: 0}}}
}

// secret is a transaction of secrets alone that may be.
func secret() api.Tx {
	return api.Tx{Anchor: key(8), Nulls: []api.Key{key(1), key(2)}, Notes: []api.Key{key(3)}}
}

// base is a coinbase that may be.
func base() api.Tx {
	return api.Tx{Ins: []api.Point{{Index: 4}}, Outs: []api.Out{{Value: api.Subsidy}}}
}

// changed is t with what f does to it.
func changed(t api.Tx, f func(t *api.Tx)) api.Tx {
	f(&t)
	return t
}

// nth is n keys that all differ.
func nth(n int) (l []api.Key) {
	for i := range n {
		l = append(l, key(byte(i>>8), byte(i), 1))
	}
	return l
}

// points is n points that all differ, many of them by Index alone.
func points(n int) (l []api.Point) {
	for i := range n {
		l = append(l, api.Point{Tx: key(3, byte(i/50)), Index: uint32(i % 50)})
	}
	return l
}

// outs is an Out of each of these values.
func outs(values ...int64) (l []api.Out) {
	for _, v := range values {
		l = append(l, api.Out{Value: v})
	}
	return l
}

// once is whether nothing is in l twice.
func once[T comparable](l []T) bool {
	for i, x := range l {
		if slices.Contains(l[:i], x) {
			return false
		}
	}
	return true
}

// both is whether something is in a and in b.
func both[T comparable](a, b []T) bool {
	for _, x := range a {
		if slices.Contains(b, x) {
			return true
		}
	}
	return false
}

// worth is whether these Outs come to what may be; each is bounded ahead of adding, so that no sum goes round.
func worth(l []api.Out) bool {
	var sum int64
	for _, o := range l {
		if o.Value < 0 || o.Value > api.Max {
			return false
		}
		if sum += o.Value; sum > api.Max {
			return false
		}
	}
	return true
}

// want is Check, as the document says it, clause by clause.
func want(t api.Tx, base bool) api.Errno {
	coinbase := len(t.Ins) == 1 && t.Ins[0].Tx == api.Key{}
	switch {
	case len(t.Ins) > 40 || len(t.Outs) > 40 || len(t.Nulls) > 40 || len(t.Notes) > 40:
		return api.ErrMany
	case len(t.Nulls) == 0 && t.Anchor != api.Key{}:
		return api.ErrArg
	case len(t.Ins) == 0 && len(t.Nulls) == 0, len(t.Outs) == 0 && len(t.Notes) == 0:
		return api.ErrEmpty
	case coinbase != base, base && len(t.Nulls) > 0:
		return api.ErrCoin
	case !base && slices.ContainsFunc(t.Ins, func(p api.Point) bool { return p.Tx == api.Key{} }):
		return api.ErrCoin
	case !once(t.Ins), !once(t.Nulls):
		return api.ErrRepeat
	case !worth(t.Outs), t.Balance < -2100000000000000, t.Balance > 2100000000000000:
		return api.ErrMoney
	case t.Balance > 0 && len(t.Nulls) == 0, t.Balance < 0 && len(t.Notes) == 0:
		return api.ErrMoney
	}
	return api.OK
}

// is fails, unless Check tells e, as the document does.
func is(t *testing.T, x api.Tx, base bool, e api.Errno) {
	t.Helper()
	if got := check.Check(x, base); got != e || want(x, base) != e {
		t.Errorf("%v, %v: %d, not %d (%d)", x, base, got, e, want(x, base))
	}
}

// P11.2: what may be, and that it may not the other way round.
func TestCheckGood(t *testing.T) {
	mixed := plain()
	mixed.Anchor, mixed.Nulls, mixed.Notes = key(8), nth(3), nth(2)
	most := api.Tx{Ins: points(40), Outs: make([]api.Out, 40), Nulls: nth(40), Notes: nth(40)}
	for _, x := range []api.Tx{
		plain(), secret(), mixed, most,
		{Ins: points(1), Outs: outs(0)}, {Ins: points(1), Notes: nth(1)}, {Nulls: nth(1), Outs: outs(0)}, {Nulls: nth(1), Notes: nth(1)},
		// Notes may be there twice; a nullifier, a note, and a lock may be 0.
		{Nulls: []api.Key{{}}, Notes: make([]api.Key, 3), Outs: make([]api.Out, 2)},
		// Two outs of one transaction, and one out's place in two.
		{Ins: []api.Point{{Tx: key(1)}, {Tx: key(1), Index: 1}, {Tx: key(2), Index: 1}}, Outs: outs(1)},
		{Expiry: math.MaxUint32, Ins: points(1), Outs: outs(1)},
	} {
		is(t, x, false, api.OK)
		is(t, x, true, api.ErrCoin)
	}
	for _, x := range []api.Tx{
		base(), {Ins: make([]api.Point, 1), Outs: outs(0)}, {Ins: []api.Point{{Index: math.MaxUint32}}, Outs: outs(1, 2, 3)},
		{Ins: make([]api.Point, 1), Notes: make([]api.Key, 40), Balance: -api.Max}, {Ins: make([]api.Point, 1), Outs: make([]api.Out, 40)},
	} {
		is(t, x, true, api.OK)
		is(t, x, false, api.ErrCoin)
	}
}

// P11.2: tx.Encode's errors, ahead of all others.
func TestCheckEncode(t *testing.T) {
	for _, b := range []bool{false, true} {
		is(t, api.Tx{Ins: points(41)}, b, api.ErrMany)
		is(t, api.Tx{Outs: outs(make([]int64, 41)...)}, b, api.ErrMany)
		is(t, api.Tx{Nulls: make([]api.Key, 41)}, b, api.ErrMany)
		is(t, api.Tx{Notes: nth(41)}, b, api.ErrMany)
		is(t, api.Tx{Notes: nth(300), Anchor: key(1), Ins: make([]api.Point, 300), Balance: 1}, b, api.ErrMany)
		is(t, api.Tx{Anchor: key(1)}, b, api.ErrArg)
		is(t, api.Tx{Anchor: api.Key{31: 1}, Ins: make([]api.Point, 2), Outs: outs(-1), Balance: 1}, b, api.ErrArg)
		for _, x := range []api.Tx{plain(), base()} {
			is(t, changed(x, func(t *api.Tx) { t.Anchor = key(1) }), b, api.ErrArg)
			is(t, changed(x, func(t *api.Tx) { t.Notes = nth(41) }), b, api.ErrMany)
		}
	}
}

// P11.2: the chapter's example, and all others that spend nothing, or make nothing, whatever else is wrong.
func TestCheckEmpty(t *testing.T) {
	for _, b := range []bool{false, true} {
		for _, x := range []api.Tx{
			{}, {Ins: []api.Point{}, Outs: []api.Out{}, Nulls: []api.Key{}, Notes: []api.Key{}}, {Expiry: 9, Balance: 3},
			{Ins: points(1)}, {Ins: make([]api.Point, 1)}, {Ins: make([]api.Point, 2)}, {Nulls: nth(1)}, {Nulls: make([]api.Key, 2), Anchor: key(1)}, {Ins: points(2), Nulls: nth(2)},
			{Outs: outs(1)}, {Outs: outs(-1)}, {Notes: nth(1)}, {Outs: outs(1), Notes: nth(1), Balance: math.MinInt64},
		} {
			is(t, x, b, api.ErrEmpty)
		}
	}
	is(t, changed(plain(), func(t *api.Tx) { t.Ins = nil }), false, api.ErrEmpty)
	is(t, changed(plain(), func(t *api.Tx) { t.Outs = nil }), false, api.ErrEmpty)
	is(t, changed(secret(), func(t *api.Tx) { t.Nulls, t.Anchor = nil, api.Key{} }), false, api.ErrEmpty)
	is(t, changed(secret(), func(t *api.Tx) { t.Notes = nil }), false, api.ErrEmpty)
	is(t, changed(base(), func(t *api.Tx) { t.Outs = nil }), true, api.ErrEmpty)
}

// P11.2: no coinbase where one has to be, and none, nor an In without a transaction, where none may be.
func TestCheckCoin(t *testing.T) {
	nowhere := api.Point{Index: 3}
	for _, l := range [][]api.Point{{nowhere}, {nowhere, point(1)}, {point(1), nowhere}, {point(1), nowhere, point(2)}, {nowhere, {}}, append(points(39), api.Point{})} {
		is(t, changed(plain(), func(t *api.Tx) { t.Ins = l }), false, api.ErrCoin)
		is(t, changed(secret(), func(t *api.Tx) { t.Ins = l }), false, api.ErrCoin)
		is(t, changed(secret(), func(t *api.Tx) { t.Ins = l }), true, api.ErrCoin)
	}
	for _, l := range [][]api.Point{{point(1)}, {nowhere, point(1)}, {nowhere, {}}, {{}, {}}, {point(1), nowhere}} {
		is(t, changed(base(), func(t *api.Tx) { t.Ins = l }), true, api.ErrCoin)
	}
	is(t, changed(base(), func(t *api.Tx) { t.Nulls = nth(1) }), true, api.ErrCoin)
	is(t, changed(base(), func(t *api.Tx) { t.Ins, t.Nulls = nil, nth(1) }), true, api.ErrCoin)
	for i := range 32 {
		x := base()
		x.Ins[0].Tx[i] = 1
		is(t, x, true, api.ErrCoin)
		is(t, x, false, api.OK)
	}
	// Also of what is there twice, or is too much.
	is(t, changed(plain(), func(t *api.Tx) { t.Ins = make([]api.Point, 2) }), false, api.ErrCoin)
	is(t, changed(plain(), func(t *api.Tx) { t.Ins = []api.Point{point(1), point(1), {}} }), false, api.ErrCoin)
	is(t, changed(base(), func(t *api.Tx) { t.Nulls = make([]api.Key, 2) }), true, api.ErrCoin)
	is(t, changed(base(), func(t *api.Tx) { t.Outs = outs(-1) }), false, api.ErrCoin)
	is(t, changed(plain(), func(t *api.Tx) { t.Balance = 1 }), true, api.ErrCoin)
}

// P11.2: what is spent twice, at whatever places, ahead of what it comes to.
func TestCheckRepeat(t *testing.T) {
	for i := range 40 {
		for j := range i {
			x := api.Tx{Ins: points(40), Nulls: nth(40), Outs: outs(1)}
			x.Ins[i] = x.Ins[j]
			is(t, x, false, api.ErrRepeat)
			x.Balance = math.MinInt64
			is(t, x, false, api.ErrRepeat)
			x = api.Tx{Ins: points(40), Nulls: nth(40), Outs: outs(1)}
			x.Nulls[i] = x.Nulls[j]
			is(t, x, false, api.ErrRepeat)
			x.Outs[0].Value = -1
			is(t, x, false, api.ErrRepeat)
		}
	}
	is(t, changed(secret(), func(t *api.Tx) { t.Nulls = make([]api.Key, 2) }), false, api.ErrRepeat)
	// A key that is in two of the lists is not there twice.
	is(t, changed(secret(), func(t *api.Tx) { t.Ins, t.Notes = []api.Point{{Tx: t.Nulls[0]}}, slices.Clone(t.Nulls) }), false, api.OK)
}

// P11.2: Outs that come to more than there may be, or less than none, in whatever order.
func TestCheckValues(t *testing.T) {
	for _, c := range []struct {
		l []int64
		e api.Errno
	}{
		{[]int64{0}, api.OK}, {[]int64{api.Max}, api.OK}, {[]int64{api.Max, 0}, api.OK}, {[]int64{1, api.Max - 1}, api.OK}, {slices.Repeat([]int64{api.Max / 40}, 40), api.OK},
		{[]int64{-1}, api.ErrMoney}, {[]int64{5, -1}, api.ErrMoney}, {[]int64{-1, 5}, api.ErrMoney}, {[]int64{api.Max + 1}, api.ErrMoney}, {[]int64{api.Max, 1}, api.ErrMoney},
		{[]int64{1, api.Max}, api.ErrMoney}, {[]int64{api.Max, 1, -1}, api.ErrMoney}, {[]int64{math.MaxInt64}, api.ErrMoney}, {[]int64{math.MinInt64}, api.ErrMoney},
		{[]int64{math.MaxInt64, math.MaxInt64, 2}, api.ErrMoney}, {[]int64{math.MinInt64, math.MinInt64}, api.ErrMoney}, {append(slices.Repeat([]int64{api.Max / 39}, 39), api.Max/39), api.ErrMoney},
	} {
		is(t, changed(plain(), func(t *api.Tx) { t.Outs = outs(c.l...) }), false, c.e)
		is(t, changed(base(), func(t *api.Tx) { t.Outs = outs(c.l...) }), true, c.e)
		is(t, changed(secret(), func(t *api.Tx) { t.Outs, t.Balance = outs(c.l...), 5 }), false, c.e)
	}
}

// P11.2: balances, with nullifiers and notes, and without.
func TestCheckBalance(t *testing.T) {
	for _, n := range []int64{0, 1, -1, 5, -5, api.Max, -api.Max, api.Max - 1, 1 - api.Max, api.Max + 1, -api.Max - 1, math.MaxInt64, math.MinInt64} {
		in := n >= -api.Max && n <= api.Max
		told := func(may bool) api.Errno {
			if may {
				return api.OK
			}
			return api.ErrMoney
		}
		x := plain()
		x.Balance = n
		is(t, x, false, told(n == 0))
		is(t, changed(x, func(t *api.Tx) { t.Nulls = nth(1) }), false, told(in && n >= 0))
		is(t, changed(x, func(t *api.Tx) { t.Notes = nth(1) }), false, told(in && n <= 0))
		is(t, changed(x, func(t *api.Tx) { t.Nulls, t.Notes = nth(1), nth(1) }), false, told(in))
		x = base()
		x.Balance = n
		is(t, x, true, told(n == 0))
		is(t, changed(x, func(t *api.Tx) { t.Notes = nth(1) }), true, told(in && n <= 0))
		is(t, changed(x, func(t *api.Tx) { t.Outs, t.Notes = nil, nth(1) }), true, told(in && n <= 0))
	}
}

// kinds are transactions of all lists of some kinds, of which most have more than one thing wrong.
func kinds(try func(x api.Tx)) {
	for _, ins := range [][]api.Point{nil, {{}}, {point(1)}, {point(1), point(2)}, {point(1), point(1)}, {{}, {}}, {point(1), {Index: 1}}, points(41)} {
		for _, o := range [][]api.Out{nil, outs(0), outs(api.Max, 0), outs(api.Max, 1), outs(3, -1), make([]api.Out, 41)} {
			for _, nulls := range [][]api.Key{nil, {{}}, {key(1), key(2)}, {key(1), key(1)}, nth(41)} {
				for _, notes := range [][]api.Key{nil, {key(1)}, {key(1), key(1)}, nth(41)} {
					for _, anchor := range []api.Key{{}, key(7)} {
						for _, balance := range []int64{0, 4, -4, api.Max, -api.Max - 1} {
							try(api.Tx{Ins: ins, Outs: o, Anchor: anchor, Nulls: nulls, Notes: notes, Balance: balance})
						}
					}
				}
			}
		}
	}
}

// P11.2: of several errors the one that is named first, of all kinds of transactions.
func TestCheckFirst(t *testing.T) {
	told := map[api.Errno]int{}
	kinds(func(x api.Tx) {
		for _, b := range []bool{false, true} {
			e := check.Check(x, b)
			if e != want(x, b) {
				t.Fatalf("%v, %v: %d, not %d", x, b, e, want(x, b))
			}
			told[e]++
		}
	})
	for _, e := range []api.Errno{api.OK, api.ErrMany, api.ErrArg, api.ErrEmpty, api.ErrCoin, api.ErrRepeat, api.ErrMoney} {
		if told[e] < 80 {
			t.Errorf("%d: only %d times", e, told[e])
		}
	}
}

// P11.1: each value, in order, whatever it is, and however many.
func TestValues(t *testing.T) {
	for _, l := range [][]int64{nil, {}, {0}, {3, -4}, {-4, 3}, {5, 5, 5}, {math.MinInt64, math.MaxInt64, 0, api.Max + 1}, make([]int64, 300)} {
		x := api.Tx{Ins: points(2), Outs: outs(l...), Notes: nth(1), Balance: 77}
		if got := check.Values(x); !slices.Equal(got, l) {
			t.Errorf("%v: %v", l, got)
		}
	}
	if got := check.Values(base()); !slices.Equal(got, []int64{api.Subsidy}) {
		t.Errorf("base: %v", got)
	}
}

// some are points that differ by Index, or by a byte of Tx, or both.
func some() []api.Point {
	return []api.Point{{}, {Index: 1}, {Tx: api.Key{31: 1}}, {Tx: key(1)}, {Tx: key(1), Index: 1}}
}

// lists are all lists of up to three of these.
func lists[T any](of []T) [][]T {
	l := [][]T{nil}
	for from := 0; len(l[from]) < 3; from++ {
		for _, x := range of {
			l = append(l, append(slices.Clone(l[from]), x))
		}
	}
	return l
}

// P11.1: whether no point is there twice, in all short lists.
func TestPoints(t *testing.T) {
	for _, l := range lists(some()) {
		if got := check.Points(l); got != once(l) {
			t.Errorf("%v: %v", l, got)
		}
	}
	if !check.Points([]api.Point{}) || !check.Points(some()) || check.Points(append(some(), some()[2])) {
		t.Error("some")
	}
}

// P11.1: points that differ in one byte, or one bit of Index, are others; in lists of some hundreds, too.
func TestPointsLong(t *testing.T) {
	l := []api.Point{{}}
	for i := range 32 {
		l = append(l, api.Point{Index: 1 << i})
		for _, b := range []byte{1, 128} {
			p := api.Point{}
			p.Tx[i] = b
			l = append(l, p)
		}
	}
	l = append(l, points(500)...)
	if !check.Points(l) {
		t.Fatal("none is there twice")
	}
	for _, p := range l {
		if check.Points(append(slices.Clone(l), p)) || check.Points(append([]api.Point{p}, l...)) {
			t.Fatalf("%v is there twice", p)
		}
	}
}

// P11.3 and P11.4: all pairs of short lists, both ways round.
func TestFightIns(t *testing.T) {
	for _, a := range lists(some()) {
		for _, b := range lists(some()) {
			if got := check.Fight(api.Tx{Ins: a}, api.Tx{Ins: b}); got != both(a, b) {
				t.Fatalf("%v, %v: %v", a, b, got)
			}
		}
	}
}

// P11.3 and P11.4: all pairs of short lists, both ways round; an anchor is shared by many.
func TestFightNulls(t *testing.T) {
	l := lists([]api.Key{{}, {31: 1}, key(1), key(1, 1)})
	for _, a := range l {
		for _, b := range l {
			if got := check.Fight(api.Tx{Anchor: key(5), Nulls: a}, api.Tx{Anchor: key(5), Nulls: b}); got != both(a, b) {
				t.Fatalf("%v, %v: %v", a, b, got)
			}
		}
	}
}

// P11.3: points or nullifiers, either will do; nothing else does, and no key of one as one of the other.
func TestFight(t *testing.T) {
	a := api.Tx{Expiry: 1, Ins: []api.Point{point(1), point(2)}, Outs: outs(5), Anchor: key(9), Nulls: []api.Key{key(3), key(4)}, Notes: []api.Key{key(5)}, Balance: 6}
	for _, c := range []struct {
		b    api.Tx
		want bool
	}{
		{api.Tx{}, false}, {a, true},
		{changed(a, func(t *api.Tx) { t.Ins = nil }), true},
		{changed(a, func(t *api.Tx) { t.Nulls = nil }), true},
		{changed(a, func(t *api.Tx) { t.Ins, t.Nulls = nil, nil }), false},
		{changed(a, func(t *api.Tx) {
			t.Ins, t.Nulls = []api.Point{point(3), {Tx: key(1), Index: 1}}, []api.Key{key(1), key(5)}
		}), false},
		{api.Tx{Ins: []api.Point{point(7), point(2)}}, true}, {api.Tx{Nulls: []api.Key{key(7), key(3)}}, true},
		{api.Tx{Ins: []api.Point{point(7)}, Nulls: []api.Key{key(4)}}, true}, {api.Tx{Ins: []api.Point{point(1)}, Nulls: []api.Key{key(7)}}, true},
		{api.Tx{Notes: []api.Key{key(3), key(5)}, Anchor: key(4)}, false},
	} {
		if got, back := check.Fight(a, c.b), check.Fight(c.b, a); got != c.want || back != c.want {
			t.Errorf("%v: %v, %v, not %v", c.b, got, back, c.want)
		}
	}
	if check.Fight(api.Tx{}, api.Tx{}) {
		t.Error("nothing at all")
	}
}

// P11.3: of lists of some hundreds, wherever they meet.
func TestFightLong(t *testing.T) {
	a := api.Tx{Ins: points(400)[:200], Nulls: nth(400)[:200]}
	b := api.Tx{Ins: points(400)[200:], Nulls: nth(400)[200:]}
	if check.Fight(a, b) || check.Fight(b, a) {
		t.Fatal("they don't meet")
	}
	for i := range 200 {
		x := changed(b, func(t *api.Tx) { t.Ins = append(slices.Clone(b.Ins), a.Ins[i]) })
		y := changed(b, func(t *api.Tx) { t.Nulls = append([]api.Key{a.Nulls[i]}, b.Nulls...) })
		if !check.Fight(a, x) || !check.Fight(x, a) || !check.Fight(a, y) || !check.Fight(y, a) {
			t.Fatalf("they meet at %d", i)
		}
	}
}

// P11.4: what fights fights the other way round; what may be fights itself.
func TestWhatFollows(t *testing.T) {
	r := rand.New(rand.NewSource(11))
	var l []api.Tx
	kinds(func(x api.Tx) {
		good := check.Check(x, false) == api.OK || check.Check(x, true) == api.OK
		if good && !check.Fight(x, x) {
			t.Fatalf("%v does not fight itself", x)
		}
		if good || r.Intn(50) == 0 {
			l = append(l, x)
		}
	})
	for range 20000 {
		a, b := l[r.Intn(len(l))], l[r.Intn(len(l))]
		want := both(a.Ins, b.Ins) || both(a.Nulls, b.Nulls)
		if got, back := check.Fight(a, b), check.Fight(b, a); got != want || back != want {
			t.Fatalf("%v, %v: %v, %v", a, b, got, back)
		}
	}
}

// R3: what is handed in is not changed, what lies behind its length neither.
func TestNothingIsChanged(t *testing.T) {
	rich := func() api.Tx {
		return api.Tx{
			Expiry: 3, Ins: []api.Point{point(9), point(1), point(5), point(9), point(2)}, Outs: outs(5, 3, 4, -1, 9),
			Anchor: key(6), Nulls: []api.Key{key(9), key(1), key(5), key(9), key(2)}, Notes: []api.Key{key(4), key(3), key(4)}, Balance: 1,
		}
	}
	for n := range 6 {
		whole, other := rich(), rich()
		part := whole
		part.Ins, part.Outs, part.Nulls, part.Notes = whole.Ins[:n], whole.Outs[:n], whole.Nulls[:n], whole.Notes[:n/2]
		check.Check(part, false)
		check.Check(part, true)
		check.Points(part.Ins)
		check.Fight(part, other)
		check.Fight(other, part)
		l := check.Values(part)
		_ = append(l[:cap(l)], 1, 2, 3)
		clear(l[:cap(l)])
		if fmt.Sprint(whole) != fmt.Sprint(rich()) || fmt.Sprint(other) != fmt.Sprint(rich()) {
			t.Fatalf("%d: %v, %v", n, whole, other)
		}
	}
}

// R5: what was told before changes no answer.
func TestAgain(t *testing.T) {
	for range 3 {
		is(t, plain(), false, api.OK)
		is(t, plain(), true, api.ErrCoin)
		is(t, base(), true, api.OK)
		is(t, base(), false, api.ErrCoin)
		is(t, api.Tx{}, false, api.ErrEmpty)
		is(t, secret(), false, api.OK)
	}
}
