package coins_test

import (
	"math"
	"math/rand"
	"slices"
	"testing"

	"thurible/api"
	"thurible/coins"
)

// key is a key that begins by these bytes.
func key(l ...byte) (k api.Key) {
	copy(k[:], l)
	return k
}

// at is a point of the transaction key(b).
func at(b byte, index uint32) api.Point {
	return api.Point{Tx: key(b), Index: index}
}

// coin is a coin of no coinbase, which its value tells from others at its point.
func coin(b byte, index uint32, value int64) coins.Coin {
	return coins.Coin{At: at(b, index), Out: api.Out{Value: value, Lock: key(77)}, Height: 5}
}

// base is such a coin of a coinbase.
func base(b byte, index uint32, value int64) coins.Coin {
	c := coin(b, index, value)
	c.Base = true
	return c
}

// spends is a transaction that spends these, and makes coins of so many values, 100 and up.
func spends(outs int, ins ...api.Point) api.Tx {
	t := api.Tx{Ins: ins}
	for i := range outs {
		t.Outs = append(t.Outs, api.Out{Value: int64(100 + i), Lock: key(9, byte(i))})
	}
	return t
}

// coinbase is a coinbase that makes so many coins.
func coinbase(outs int) api.Tx {
	return spends(outs, api.Point{Index: 3})
}

// below is Less, byte by byte, and then by Index.
func below(a, b api.Point) bool {
	for i := range a.Tx {
		if a.Tx[i] != b.Tx[i] {
			return a.Tx[i] < b.Tx[i]
		}
	}
	return a.Index < b.Index
}

// ripe is Ripe, in numbers that do not go round.
func ripe(c coins.Coin, height uint32) bool {
	return !c.Base || int64(height) >= int64(c.Height)+3
}

// taken is l without the first coin at p that is ripe for a height (or without the first one at p, whichever it is), that coin, and whether there was one.
func taken(l []coins.Coin, p api.Point, height uint32, whichever bool) ([]coins.Coin, coins.Coin, bool) {
	for i, c := range l {
		if c.At == p && (whichever || ripe(c, height)) {
			return append(slices.Clone(l[:i]), l[i+1:]...), c, true
		}
	}
	return nil, coins.Coin{}, false
}

// put is l with c ahead of the first one that its point is below, and whether there was none at it.
func put(l []coins.Coin, c coins.Coin) ([]coins.Coin, bool) {
	for _, x := range l {
		if x.At == c.At {
			return nil, false
		}
	}
	for i, x := range l {
		if below(c.At, x.At) {
			return append(append(slices.Clone(l[:i]), c), l[i:]...), true
		}
	}
	return append(slices.Clone(l), c), true
}

// apply is Apply, as the document says it.
func apply(s []coins.Coin, t api.Tx, id api.Key, height uint32) (l, spent []coins.Coin, e api.Errno) {
	l = slices.Clone(s)
	isBase := len(t.Ins) == 1 && t.Ins[0].Tx == api.Key{}
	for _, p := range t.Ins {
		if isBase {
			break
		}
		less, c, is := taken(l, p, height, false)
		if !is {
			return nil, nil, api.ErrInput
		}
		l, spent = less, append(spent, c)
	}
	for i, o := range t.Outs {
		more, is := put(l, coins.Coin{At: api.Point{Tx: id, Index: uint32(i)}, Out: o, Height: height, Base: isBase})
		if !is {
			return nil, nil, api.ErrTwice
		}
		l = more
	}
	return l, spent, api.OK
}

// undo is Undo, as the document says it.
func undo(s []coins.Coin, t api.Tx, id api.Key, spent []coins.Coin) ([]coins.Coin, api.Errno) {
	l := slices.Clone(s)
	for i := len(t.Outs) - 1; i >= 0; i-- {
		less, _, is := taken(l, api.Point{Tx: id, Index: uint32(i)}, 0, true)
		if !is {
			return nil, api.ErrNone
		}
		l = less
	}
	for i := len(spent) - 1; i >= 0; i-- {
		more, is := put(l, spent[i])
		if !is {
			return nil, api.ErrTwice
		}
		l = more
	}
	return l, api.OK
}

// rises is whether each point of l is below the next one.
func rises(l []coins.Coin) bool {
	for i := 1; i < len(l); i++ {
		if !below(l[i-1].At, l[i].At) {
			return false
		}
	}
	return true
}

// few is some coins that rise, of coinbases and others.
func few() []coins.Coin {
	return []coins.Coin{coin(1, 0, 10), coin(1, 2, 12), base(3, 0, 30), base(3, 1, 31), coin(5, 0, 50), coin(5, math.MaxUint32, 59)}
}

// anyCoins is up to n coins at few points, as they are drawn: often more than one at a point, and not rising.
func anyCoins(r *rand.Rand, n int) []coins.Coin {
	l := make([]coins.Coin, r.Intn(n+1))
	for i := range l {
		l[i] = coins.Coin{At: at(byte(r.Intn(4)), uint32(r.Intn(3))), Out: api.Out{Value: int64(r.Intn(1000)) - 200}, Height: uint32(r.Intn(6)), Base: r.Intn(3) == 0}
	}
	return l
}

// risen is those of l that are first at their points, rising.
func risen(l []coins.Coin) []coins.Coin {
	var s []coins.Coin
	for _, c := range l {
		if more, is := put(s, c); is {
			s = more
		}
	}
	return s
}

// anyTx is a transaction of few points, with up to three Ins and Outs.
func anyTx(r *rand.Rand) api.Tx {
	var ins []api.Point
	for range r.Intn(4) {
		ins = append(ins, at(byte(r.Intn(4)), uint32(r.Intn(3))))
	}
	return spends(r.Intn(4), ins...)
}

// same is whether Apply answers just that.
func same(t *testing.T, s []coins.Coin, x api.Tx, id api.Key, height uint32) ([]coins.Coin, []coins.Coin, api.Errno) {
	t.Helper()
	l, spent, e := coins.Apply(s, x, id, height)
	wantL, wantSpent, wantE := apply(s, x, id, height)
	if !slices.Equal(l, wantL) || !slices.Equal(spent, wantSpent) || e != wantE {
		t.Fatalf("Apply of %v, %v, %x, %d:\n%v, %v, %d, not\n%v, %v, %d", s, x, id[:2], height, l, spent, e, wantL, wantSpent, wantE)
	}
	return l, spent, e
}

// sameUndone is whether Undo answers just that.
func sameUndone(t *testing.T, s []coins.Coin, x api.Tx, id api.Key, spent []coins.Coin) ([]coins.Coin, api.Errno) {
	t.Helper()
	l, e := coins.Undo(s, x, id, spent)
	wantL, wantE := undo(s, x, id, spent)
	if !slices.Equal(l, wantL) || e != wantE {
		t.Fatalf("Undo of %v, %v, %x, %v:\n%v, %d, not\n%v, %d", s, x, id[:2], spent, l, e, wantL, wantE)
	}
	return l, e
}

// P9.1: the transaction's key first, from its first byte on, and then the place.
func TestLess(t *testing.T) {
	l := []api.Point{{}, {Index: 1}, {Index: math.MaxUint32}, {Tx: api.Key{31: 1}}, {Tx: api.Key{31: 255}, Index: 7}, {Tx: api.Key{30: 1}, Index: 2}, at(1, 0), at(1, 1), at(1, 256), at(1, 1<<31), {Tx: key(1, 1)}, at(2, 0), at(128, 9), at(255, 0), at(255, math.MaxUint32)}
	for i, a := range l {
		for j, b := range l {
			if got := coins.Less(a, b); got != (i < j) || got != below(a, b) {
				t.Errorf("%v, %v: %v", a, b, got)
			}
		}
	}
}

// P9.1: the coin at that very point; none: nothing, and false.
func TestFind(t *testing.T) {
	for _, c := range few() {
		if got, is := coins.Find(few(), c.At); got != c || !is {
			t.Errorf("%v: %v, %v", c.At, got, is)
		}
	}
	for _, p := range []api.Point{{}, at(1, 1), at(0, 0), at(3, 2), at(5, 1), at(5, math.MaxUint32-1), at(9, 0), {Tx: api.Key{0: 1, 31: 1}}} {
		if got, is := coins.Find(few(), p); got != (coins.Coin{}) || is {
			t.Errorf("%v: %v, %v", p, got, is)
		}
	}
	for _, l := range [][]coins.Coin{nil, {}, few()[:0]} {
		if got, is := coins.Find(l, at(1, 0)); got != (coins.Coin{}) || is {
			t.Errorf("in none: %v, %v", got, is)
		}
	}
	if got, is := coins.Find(make([]coins.Coin, 1), api.Point{}); got != (coins.Coin{}) || !is {
		t.Errorf("a coin of nothing: %v, %v", got, is)
	}
}

// P9.1: the first one, ripe or not, in lists that do not rise, too.
func TestFindFirst(t *testing.T) {
	l := []coins.Coin{coin(5, 0, 1), base(3, 0, 2), coin(3, 0, 3), coin(1, 0, 4), coin(5, 0, 5), coin(3, 0, 6)}
	for _, c := range []coins.Coin{l[0], l[1], l[3]} {
		if got, is := coins.Find(l, c.At); got != c || !is {
			t.Errorf("%v: %v, %v", c.At, got, is)
		}
	}
}

// P9.1: of a coinbase three blocks behind it, and not where that goes round; all others always.
func TestRipe(t *testing.T) {
	heights := []uint32{0, 1, 2, 3, 4, 5, 6, 9, 1 << 31, 1<<31 + 2, 1<<31 + 3}
	for i := range uint32(7) {
		heights = append(heights, math.MaxUint32-i)
	}
	for _, made := range heights {
		for _, height := range heights {
			for _, isBase := range []bool{false, true} {
				c := coins.Coin{Height: made, Base: isBase}
				if got := coins.Ripe(c, height); got != (!isBase || int64(height)-int64(made) >= 3) {
					t.Errorf("%v made at %d, asked at %d: %v", isBase, made, height, got)
				}
			}
		}
	}
}

// P9.2: what is spent goes, in the order of Ins; what is made stands in its place.
func TestApply(t *testing.T) {
	l := few()
	x := spends(2, at(5, 0), at(1, 0))
	got, spent, e := coins.Apply(l, x, key(4), 6)
	want := []coins.Coin{l[1], l[2], l[3], {At: at(4, 0), Out: x.Outs[0], Height: 6}, {At: at(4, 1), Out: x.Outs[1], Height: 6}, l[5]}
	if !slices.Equal(got, want) || !slices.Equal(spent, []coins.Coin{l[4], l[0]}) || e != api.OK {
		t.Errorf("%v, %v, %d", got, spent, e)
	}
	for _, id := range []api.Key{{}, key(0, 1), key(1, 1), key(2), key(3, 0, 1), key(5, 1), key(255)} {
		if _, _, e := same(t, l, spends(3, at(1, 2)), id, 6); e != api.OK {
			t.Errorf("%x: %d", id, e)
		}
	}
}

// P9.2: a transaction of nothing changes nothing; one may only spend, or only make.
func TestApplyNothing(t *testing.T) {
	for _, l := range [][]coins.Coin{nil, {}, few()} {
		got, spent, e := coins.Apply(l, api.Tx{}, key(8), 1)
		if !slices.Equal(got, l) || len(spent) != 0 || e != api.OK {
			t.Errorf("%v: %v, %v, %d", l, got, spent, e)
		}
		if got, spent, e := same(t, l, spends(2), key(8), 1); len(got) != len(l)+2 || len(spent) != 0 || e != api.OK || got[len(l)].Base {
			t.Errorf("%v: %v, %v, %d", l, got, spent, e)
		}
	}
	if got, spent, e := same(t, few()[:1], spends(0, at(1, 0)), key(8), 1); len(got) != 0 || len(spent) != 1 || e != api.OK {
		t.Errorf("%v, %v, %d", got, spent, e)
	}
}

// P9.2: a coinbase spends none, also if there is a coin of the key 0; what it makes is Base.
func TestApplyCoinbase(t *testing.T) {
	l := append([]coins.Coin{{At: api.Point{Index: 3}}}, few()...)
	for _, s := range [][]coins.Coin{nil, few(), l} {
		got, spent, e := same(t, s, coinbase(2), key(2), math.MaxUint32)
		if len(spent) != 0 || e != api.OK || len(got) != len(s)+2 {
			t.Fatalf("%v: %v, %v, %d", s, got, spent, e)
		}
		for i := range uint32(2) {
			if c, is := coins.Find(got, at(2, i)); !is || !c.Base || c.Height != math.MaxUint32 || c.Out.Value != int64(100+i) {
				t.Errorf("%d: %v, %v", i, c, is)
			}
		}
	}
}

// P9.2: two Ins of which one has the key 0 are no coinbase: they have to be there.
func TestApplyNoCoinbase(t *testing.T) {
	x := spends(1, api.Point{}, at(1, 0))
	if _, _, e := same(t, few(), x, key(2), 9); e != api.ErrInput {
		t.Error(e)
	}
	got, spent, e := same(t, append([]coins.Coin{{}}, few()...), x, key(2), 9)
	if c, is := coins.Find(got, at(2, 0)); len(spent) != 2 || e != api.OK || !is || c.Base {
		t.Errorf("%v, %v, %d", got, spent, e)
	}
}

// P9.2: ErrInput, wherever among Ins it is that is not there, or is there no more.
func TestApplyInput(t *testing.T) {
	for _, ins := range [][]api.Point{
		{at(1, 1)}, {at(1, 0), at(1, 1)}, {at(1, 1), at(1, 0)}, {at(1, 0), at(5, 0), at(0, 0)},
		{at(1, 0), at(1, 0)}, {at(1, 0), at(5, 0), at(1, 0)}, {at(5, math.MaxUint32-1)}, {api.Point{}, {}},
	} {
		got, spent, e := same(t, few(), spends(1, ins...), key(2), 99)
		if len(got) != 0 || len(spent) != 0 || e != api.ErrInput {
			t.Errorf("%v: %v, %v, %d", ins, got, spent, e)
		}
	}
	if _, _, e := same(t, nil, spends(1, at(1, 0)), key(2), 99); e != api.ErrInput {
		t.Error(e)
	}
}

// P9.2: a coinbase's coin is spent three blocks behind it, and no block earlier.
func TestApplyRipe(t *testing.T) {
	for height := range uint32(12) {
		want := api.ErrInput
		if height >= 8 {
			want = api.OK
		}
		for _, ins := range [][]api.Point{{at(3, 1)}, {at(1, 0), at(3, 0)}} {
			if got, spent, e := same(t, few(), spends(1, ins...), key(2), height); e != want || e != api.OK && len(got)+len(spent) > 0 {
				t.Errorf("%v at %d: %v, %v, %d", ins, height, got, spent, e)
			}
		}
		if _, _, e := same(t, few(), spends(1, at(1, 0)), key(2), height); e != api.OK {
			t.Errorf("no coinbase's at %d: %d", height, e)
		}
	}
	young := []coins.Coin{{At: at(1, 0), Height: math.MaxUint32 - 1, Base: true}}
	for _, height := range []uint32{0, 1, 2, math.MaxUint32} {
		if _, _, e := same(t, young, spends(1, at(1, 0)), key(2), height); e != api.ErrInput {
			t.Errorf("at %d: %d", height, e)
		}
	}
}

// P9.2: ErrTwice, if any of the places has a coin; ErrInput is told ahead of it.
func TestApplyTwice(t *testing.T) {
	for _, x := range []api.Tx{spends(1), spends(3), spends(2, at(5, 0)), coinbase(1), coinbase(3)} {
		got, spent, e := same(t, few(), x, key(1), 99)
		if len(got) != 0 || len(spent) != 0 || e != api.ErrTwice {
			t.Errorf("%v: %v, %v, %d", x, got, spent, e)
		}
	}
	if got, _, e := same(t, few()[1:], spends(3), key(1), 9); len(got) != 0 || e != api.ErrTwice {
		t.Errorf("the last place alone: %v, %d", got, e)
	}
	if _, _, e := same(t, few()[1:], spends(2), key(1), 9); e != api.OK {
		t.Errorf("ahead of the last place: %d", e)
	}
	if _, _, e := same(t, few(), spends(1, at(9, 9)), key(1), 9); e != api.ErrInput {
		t.Errorf("both: %d", e)
	}
}

// P9.2: what is spent makes room for what is made; what is made can't be spent by what makes it.
func TestApplyItsOwn(t *testing.T) {
	got, spent, e := same(t, few(), spends(1, at(1, 0)), key(1), 9)
	if c, is := coins.Find(got, at(1, 0)); e != api.OK || len(spent) != 1 || !is || c.Out.Value != 100 {
		t.Errorf("%v, %v, %d", got, spent, e)
	}
	if _, _, e := same(t, few(), spends(1, at(2, 0)), key(2), 9); e != api.ErrInput {
		t.Error(e)
	}
}

// P9.2: of more than one coin at a point the first one goes that is ripe; the others stay, and their point is none for what is made.
func TestApplyMoreAtAPoint(t *testing.T) {
	l := []coins.Coin{base(3, 0, 1), coin(3, 0, 2), base(3, 0, 3), coin(1, 0, 4), coin(3, 0, 5)}
	for _, c := range []struct {
		height uint32
		gone   []int
		e      api.Errno
	}{
		{7, []int{1}, api.OK}, {8, []int{0}, api.OK}, {7, []int{1, 4}, api.OK}, {8, []int{0, 1}, api.OK},
		{7, []int{1, 4, 0}, api.ErrInput}, {8, []int{0, 1, 2, 4}, api.OK}, {8, []int{0, 1, 2, 4, 0}, api.ErrInput},
	} {
		got, spent, e := same(t, l, spends(1, slices.Repeat([]api.Point{at(3, 0)}, len(c.gone))...), key(2), c.height)
		if e != c.e || e == api.OK && len(got) != len(l)-len(c.gone)+1 {
			t.Errorf("%v: %v, %d", c, got, e)
		}
		for i := range spent {
			if spent[i] != l[c.gone[i]] {
				t.Errorf("%v: %v", c, spent)
			}
		}
	}
	if _, _, e := same(t, l, spends(1, at(3, 0)), key(3), 8); e != api.ErrTwice {
		t.Error(e)
	}
}

// P9.2: where coins do not rise, what is made stands ahead of the first one that it is below.
func TestApplyOther(t *testing.T) {
	l := []coins.Coin{coin(5, 0, 1), coin(1, 0, 2), coin(7, 0, 3), coin(2, 0, 4)}
	for id, place := range map[byte]int{0: 0, 3: 0, 4: 0, 6: 2, 8: 4} {
		got, _, e := same(t, l, spends(1), key(id), 9)
		if e != api.OK || got[place].At != at(id, 0) {
			t.Errorf("%d: %v, %d", id, got, e)
		}
	}
}

// P9.2: the places of many Outs are told apart, beyond a byte, too.
func TestApplyMany(t *testing.T) {
	x := spends(300, at(1, 0))
	got, spent, e := same(t, few(), x, key(2), 9)
	if e != api.OK || len(got) != 305 || len(spent) != 1 || got[300].At != at(2, 299) {
		t.Errorf("%d, %d, %d", len(got), len(spent), e)
	}
	if back, e := sameUndone(t, got, x, key(2), spent); e != api.OK || !slices.Equal(back, few()) {
		t.Errorf("%v, %d", back, e)
	}
}

// P9.3: what was made goes, what was spent stands in its place again.
func TestUndo(t *testing.T) {
	l := few()
	x := spends(2, at(9, 9))
	l = append(l, coins.Coin{At: at(7, 0), Height: 1}, coins.Coin{At: at(7, 1), Height: 2, Base: true})
	got, e := coins.Undo(l, x, key(7), []coins.Coin{coin(6, 0, 60), coin(0, 0, 1)})
	if want := append(append([]coins.Coin{coin(0, 0, 1)}, few()...), coin(6, 0, 60)); !slices.Equal(got, want) || e != api.OK {
		t.Errorf("%v, %d", got, e)
	}
	for _, s := range [][]coins.Coin{nil, {}, few()} {
		if got, e := coins.Undo(s, api.Tx{}, key(7), nil); !slices.Equal(got, s) || e != api.OK {
			t.Errorf("of nothing: %v, %d", got, e)
		}
	}
}

// P9.3: a coinbase's coins go, however young they are; what was spent comes back also beside a coinbase.
func TestUndoCoinbase(t *testing.T) {
	s, _, e := same(t, few(), coinbase(2), key(2), 9)
	if e != api.OK {
		t.Fatal(e)
	}
	if got, e := sameUndone(t, s, coinbase(2), key(2), nil); !slices.Equal(got, few()) || e != api.OK {
		t.Errorf("%v, %d", got, e)
	}
	if got, e := sameUndone(t, s, coinbase(2), key(2), []coins.Coin{coin(4, 4, 4)}); len(got) != 7 || e != api.OK {
		t.Errorf("%v, %d", got, e)
	}
}

// P9.3: ErrNone, if any of the places has no coin; it is told ahead of ErrTwice.
func TestUndoNone(t *testing.T) {
	for _, c := range []struct {
		id    api.Key
		outs  int
		spent []coins.Coin
	}{
		{key(2), 1, nil}, {key(1), 2, nil}, {key(1), 3, nil}, {key(3), 3, nil}, {key(5), 40, nil}, {key(2), 1, few()}, {key(1), 2, []coins.Coin{coin(5, 0, 9)}},
	} {
		if got, e := sameUndone(t, few(), spends(c.outs), c.id, c.spent); len(got) != 0 || e != api.ErrNone {
			t.Errorf("%v: %v, %d", c, got, e)
		}
	}
	if _, e := sameUndone(t, nil, spends(1), key(1), nil); e != api.ErrNone {
		t.Error(e)
	}
	if _, e := sameUndone(t, few()[1:2], spends(3), key(1), nil); e != api.ErrNone {
		t.Errorf("the last place alone: %d", e)
	}
}

// P9.3: ErrTwice, if there is a coin where one was spent, or two were spent at one point.
func TestUndoTwice(t *testing.T) {
	for _, spent := range [][]coins.Coin{few()[:1], {coin(2, 0, 1), coin(5, 0, 7)}, {base(5, 0, 7), coin(2, 0, 1)}, {coin(2, 0, 1), coin(2, 0, 2)}, {coin(2, 0, 1), coin(4, 0, 1), coin(2, 0, 1)}} {
		if got, e := sameUndone(t, few(), api.Tx{}, key(7), spent); len(got) != 0 || e != api.ErrTwice {
			t.Errorf("%v: %v, %d", spent, got, e)
		}
	}
	if got, e := sameUndone(t, few(), spends(1), key(1), few()[:1]); !slices.Equal(got, few()) || e != api.OK {
		t.Errorf("at what was made: %v, %d", got, e)
	}
}

// P9.3: where coins do not rise, what was spent stands ahead of the first one that it is below, and of two at a point the first one goes.
func TestUndoOther(t *testing.T) {
	l := []coins.Coin{coin(5, 0, 1), coin(1, 0, 2), coin(5, 0, 3)}
	spent := []coins.Coin{coin(8, 0, 4), coin(3, 0, 5), coin(9, 0, 6), coin(0, 0, 7)}
	got, e := sameUndone(t, l, spends(1), key(5), spent)
	if want := []coins.Coin{spent[3], l[1], spent[1], l[2], spent[0], spent[2]}; !slices.Equal(got, want) || e != api.OK {
		t.Errorf("%v, %d", got, e)
	}
}

// P9.2 and P9.3: against lists in which anything may be.
func TestAnything(t *testing.T) {
	r := rand.New(rand.NewSource(9))
	told := map[api.Errno]int{}
	for range 30000 {
		s, x, id, height := anyCoins(r, 9), anyTx(r), key(byte(r.Intn(5))), uint32(r.Intn(9))
		_, _, e := same(t, s, x, id, height)
		told[e]++
		_, e = sameUndone(t, s, x, id, anyCoins(r, 3))
		told[100+e]++
	}
	for _, e := range []api.Errno{api.OK, api.ErrInput, api.ErrTwice, 100, 100 + api.ErrNone, 100 + api.ErrTwice} {
		if told[e] < 300 {
			t.Errorf("%d: only %d times", e, told[e])
		}
	}
}

// P9.4: coins that rise stay so, and what was applied is undone.
func TestWhatFollows(t *testing.T) {
	r := rand.New(rand.NewSource(94))
	many := 0
	for range 30000 {
		s, x, id, height := risen(anyCoins(r, 12)), anyTx(r), key(byte(r.Intn(6))), uint32(r.Intn(12))
		l, spent, e := same(t, s, x, id, height)
		if !rises(l) {
			t.Fatalf("%v, %v: %v", s, x, l)
		}
		if e != api.OK {
			continue
		}
		many++
		if back, e := sameUndone(t, l, x, id, spent); !slices.Equal(back, s) || e != api.OK {
			t.Fatalf("%v, %v: %v, %d", s, x, back, e)
		}
	}
	if many < 3000 {
		t.Errorf("only %d", many)
	}
}

// P9.4: many that follow each other are undone from the last one on.
func TestManyUndone(t *testing.T) {
	type step struct {
		before, spent []coins.Coin
		x             api.Tx
		id            api.Key
	}
	r := rand.New(rand.NewSource(95))
	var s []coins.Coin
	var steps []step
	for height := range uint32(200) {
		id := key(byte(r.Intn(256)), byte(height))
		x := coinbase(1 + r.Intn(3))
		if n := len(s); n > 0 && r.Intn(3) > 0 {
			a, b := s[r.Intn(n)].At, s[r.Intn(n)].At
			x = spends(r.Intn(3), a, b)
			if a == b {
				x = spends(r.Intn(3), a)
			}
		}
		l, spent, e := same(t, s, x, id, height)
		if e == api.OK {
			steps = append(steps, step{s, spent, x, id})
			s = l
		}
	}
	for _, st := range slices.Backward(steps) {
		back, e := sameUndone(t, s, st.x, st.id, st.spent)
		if !rises(s) || !slices.Equal(back, st.before) || e != api.OK {
			t.Fatalf("%v: %v, %d", st, back, e)
		}
		s = back
	}
	if len(steps) < 80 || len(s) != 0 {
		t.Errorf("%d, %v", len(steps), s)
	}
}

// R3: what is handed in is not changed, what lies behind its length neither, also with an error.
func TestNothingIsChanged(t *testing.T) {
	r := rand.New(rand.NewSource(3))
	for range 3000 {
		whole, behind := anyCoins(r, 12), anyCoins(r, 6)
		wasWhole, wasBehind := slices.Clone(whole), slices.Clone(behind)
		s, spent := whole[:r.Intn(len(whole)+1)], behind[:r.Intn(len(behind)+1)]
		x := anyTx(r)
		ins, outs := slices.Clone(x.Ins), slices.Clone(x.Outs)
		id, height := key(byte(r.Intn(5))), uint32(r.Intn(9))
		coins.Find(s, at(1, 1))
		coins.Apply(s, x, id, height)
		coins.Undo(s, x, id, spent)
		if !slices.Equal(whole, wasWhole) || !slices.Equal(behind, wasBehind) || !slices.Equal(x.Ins, ins) || !slices.Equal(x.Outs, outs) {
			t.Fatalf("%v, %v, %v", whole, behind, x)
		}
	}
}

// scratch writes over a list, and what lies behind its length.
func scratch(l []coins.Coin) {
	l = l[:cap(l)]
	for i := range l {
		l[i] = coin(66, 6, 6)
	}
}

// R3: an answer is new memory, also where nothing is put or taken, and its two lists share none.
func TestAnswersAreNew(t *testing.T) {
	for _, x := range []api.Tx{{}, spends(1), spends(0, at(1, 0)), spends(2, at(1, 2), at(5, 0)), coinbase(1)} {
		s := few()
		l, spent, e := coins.Apply(s, x, key(2), 9)
		was, wasSpent := slices.Clone(l), slices.Clone(spent)
		scratch(l)
		if !slices.Equal(spent, wasSpent) || !slices.Equal(s, few()) || e != api.OK {
			t.Errorf("%v: %v, %v, %d", x, spent, s, e)
		}
		again, spent, _ := coins.Apply(s, x, key(2), 9)
		scratch(spent)
		if !slices.Equal(again, was) || !slices.Equal(s, few()) {
			t.Errorf("%v: %v, %v", x, again, s)
		}
		back, e := coins.Undo(again, x, key(2), wasSpent)
		want := slices.Clone(wasSpent)
		scratch(back)
		if !slices.Equal(again, was) || !slices.Equal(wasSpent, want) || e != api.OK {
			t.Errorf("%v: %v, %v, %d", x, again, wasSpent, e)
		}
	}
}

// R3: two that go on from the same coins know nothing of each other.
func TestFork(t *testing.T) {
	s, _, _ := coins.Apply(few(), spends(1, at(1, 0)), key(2), 9)
	was := slices.Clone(s)
	one, _, _ := coins.Apply(s, spends(1, at(2, 0)), key(8), 10)
	two, _, _ := coins.Apply(s, spends(1, at(5, 0)), key(0), 10)
	wantOne, _, _ := apply(was, spends(1, at(2, 0)), key(8), 10)
	wantTwo, _, _ := apply(was, spends(1, at(5, 0)), key(0), 10)
	if !slices.Equal(one, wantOne) || !slices.Equal(two, wantTwo) || !slices.Equal(s, was) {
		t.Errorf("%v, %v, %v", one, two, s)
	}
}
