package oracle_test

import (
	"math"
	"math/rand"
	"reflect"
	"slices"
	"testing"

	"thurible/api"
	"thurible/oracle"
)

var (
	a = api.Key{0: 1}
	b = api.Key{31: 1}
)

// clauseItems is P15.1's clause: one for each of its Ins, Nulls and Notes, counted one by one.
func clauseItems(t api.Tx) (n int) {
	for range t.Ins {
		n++
	}
	for range t.Nulls {
		n++
	}
	for range t.Notes {
		n++
	}
	return n
}

// what a verdict is on.
type what struct {
	tx   api.Key
	item int
}

// firsts is what the first verdict on each thing says: P15.1's clause, by what is put in from the last one on.
func firsts(l []oracle.Verdict) map[what]bool {
	m := map[what]bool{}
	for i := len(l) - 1; i >= 0; i-- {
		m[what{l[i].Tx, l[i].Item}] = l[i].Good
	}
	return m
}

// clauseAll is P15.2's clause; an item without a verdict comes behind no more items than there are verdicts.
func clauseAll(m map[what]bool, id api.Key, items int) bool {
	for i := 0; i < items; i++ {
		if !m[what{id, i}] {
			return false
		}
	}
	return true
}

// short calls f with all lists of up to four verdicts on two items of two transactions.
func short(f func([]oracle.Verdict)) {
	var put func(l []oracle.Verdict)
	put = func(l []oracle.Verdict) {
		f(l)
		if len(l) == 4 {
			return
		}
		for n := range 8 {
			v := oracle.Verdict{Tx: a, Item: n / 2 % 2, Good: n%2 == 1}
			if n >= 4 {
				v.Tx = b
			}
			put(append(slices.Clone(l), v))
		}
	}
	put(nil)
}

// long calls f with lists of many verdicts by chance, on items that come often, or seldom.
func long(f func([]oracle.Verdict)) {
	r := rand.New(rand.NewSource(15))
	for range 300 {
		l := make([]oracle.Verdict, r.Intn(200))
		items, bad := 1+r.Intn(60), 1+r.Intn(20)
		for i := range l {
			l[i] = oracle.Verdict{Tx: a, Item: r.Intn(items) - 1, Good: r.Intn(bad) != 0}
			if r.Intn(3) == 0 {
				l[i].Tx = b
			}
		}
		f(l)
	}
}

// P15.1: an item for each of three lists, none for outs and for all else.
func TestItems(t *testing.T) {
	for _, x := range []struct {
		t api.Tx
		n int
	}{
		{api.Tx{}, 0},
		{api.Tx{Ins: make([]api.Point, 1)}, 1},
		{api.Tx{Nulls: make([]api.Key, 1)}, 1},
		{api.Tx{Notes: make([]api.Key, 1)}, 1},
		{api.Tx{Outs: make([]api.Out, 1)}, 0},
		{api.Tx{Expiry: 7, Anchor: a, Balance: 9}, 0},
		{api.Tx{Ins: make([]api.Point, 2), Outs: make([]api.Out, 9), Nulls: make([]api.Key, 1), Notes: make([]api.Key, 4)}, 7},
		{api.Tx{Ins: make([]api.Point, 40), Outs: make([]api.Out, 40), Nulls: make([]api.Key, 40), Notes: make([]api.Key, 40)}, 120},
		{api.Tx{Ins: make([]api.Point, 41), Outs: make([]api.Out, 300), Nulls: make([]api.Key, 300), Notes: make([]api.Key, 500)}, 841},
	} {
		if n := oracle.Items(x.t); n != x.n {
			t.Error(n, x.n)
		}
	}
	r := rand.New(rand.NewSource(1))
	for range 500 {
		y := api.Tx{Ins: make([]api.Point, r.Intn(45)), Outs: make([]api.Out, r.Intn(45)), Nulls: make([]api.Key, r.Intn(45)), Notes: make([]api.Key, r.Intn(45))}
		if n := oracle.Items(y); n != clauseItems(y) {
			t.Fatal(n, clauseItems(y))
		}
	}
}

// P15.1: the first verdict of that transaction and that item, and of no other.
func TestLook(t *testing.T) {
	l := []oracle.Verdict{{a, 0, true}, {a, 1, false}, {a, 1, true}, {b, 2, true}, {b, 2, false}, {a, -1, true}, {b, math.MaxInt, true}, {a, math.MinInt, true}}
	for _, x := range []struct {
		id   api.Key
		item int
		is   bool
	}{
		{a, 0, true}, {a, 1, false}, {a, 2, false}, {b, 2, true}, {b, 0, false}, {b, 1, false},
		{a, -1, true}, {b, -1, false}, {b, math.MaxInt, true}, {a, math.MaxInt, false}, {a, math.MinInt, true}, {b, math.MinInt, false},
		{api.Key{}, 0, false}, {a, 1 << 32, false}, {a, 1 << 8, false}, {b, 2 + 1<<32, false},
	} {
		if is := oracle.Look(l, x.id, x.item); is != x.is {
			t.Error(x.id[0], x.item, is)
		}
		if oracle.Look(nil, x.id, x.item) || oracle.Look([]oracle.Verdict{}, x.id, x.item) {
			t.Error("good by none", x.id[0], x.item)
		}
	}
	if !oracle.Look([]oracle.Verdict{{Good: true}}, api.Key{}, 0) {
		t.Error("the key of zeroes is one, too")
	}
}

// P15.1: a key is another one, whichever of its bytes is another.
func TestLookAtEachByte(t *testing.T) {
	for i := range 32 {
		near := a
		near[i] ^= 128
		for _, l := range [][]oracle.Verdict{{{near, 3, true}}, {{near, 3, true}, {a, 3, false}}} {
			if oracle.Look(l, a, 3) || !oracle.Look(l, near, 3) {
				t.Error(i)
			}
		}
		if l := []oracle.Verdict{{near, 0, false}, {a, 0, true}}; !oracle.All(l, a, 1) || oracle.All(l, near, 1) {
			t.Error(i)
		}
	}
}

// P15.1, P15.2: Look and All of short lists and long ones, of each number of items.
func TestClauses(t *testing.T) {
	for _, lists := range []func(func([]oracle.Verdict)){short, long} {
		lists(func(l []oracle.Verdict) {
			m := firsts(l)
			for _, id := range []api.Key{a, b, {}} {
				for _, i := range []int{math.MinInt, -2, -1, 0, 1, 2, 3, 7, 30, 58, 59, 60, math.MaxInt} {
					if is := oracle.Look(l, id, i); is != m[what{id, i}] {
						t.Fatal(len(l), id[0], i, is)
					}
				}
				for _, n := range []int{math.MinInt, -2, -1, 0, 1, 2, 3, 4, 7, 30, 60, 1000, math.MaxInt} {
					if is := oracle.All(l, id, n); is != clauseAll(m, id, n) {
						t.Fatal(len(l), id[0], n, is)
					}
				}
			}
		})
	}
}

// P15.2: each item below, and none from there on; the first verdict on each alone.
func TestAll(t *testing.T) {
	l := []oracle.Verdict{{a, 2, true}, {a, 0, true}, {b, 0, true}, {a, 1, true}, {a, 3, false}, {a, 1, false}, {a, 3, true}, {a, 4, true}, {b, 1, false}}
	for _, x := range []struct {
		id    api.Key
		items int
		is    bool
	}{
		{a, math.MinInt, true}, {a, -1, true}, {a, 0, true}, {a, 1, true}, {a, 2, true}, {a, 3, true}, {a, 4, false}, {a, 5, false}, {a, 1000, false}, {a, math.MaxInt, false},
		{b, 0, true}, {b, 1, true}, {b, 2, false}, {api.Key{}, 0, true}, {api.Key{}, 1, false},
	} {
		if is := oracle.All(l, x.id, x.items); is != x.is {
			t.Error(x.id[0], x.items, is)
		}
	}
	for _, n := range []int{math.MinInt, -1, 0, 1, 2, math.MaxInt} {
		if is := oracle.All(nil, a, n); is != (n <= 0) {
			t.Error(n, is)
		}
	}
	// Good of one that lacks, or is bad, at any place is not all good.
	for i := range 40 {
		lacks, bad := slices.Delete(oracle.Good(a, 40), i, i+1), oracle.Good(a, 40)
		bad[i].Good = false
		for _, l := range [][]oracle.Verdict{lacks, bad} {
			if oracle.All(l, a, 40) || oracle.All(l, a, i+1) || !oracle.All(l, a, i) {
				t.Error(i)
			}
		}
	}
}

// P15.2: a verdict that is good on each item, in order; none of too few and of too many.
func TestGood(t *testing.T) {
	for _, n := range []int{0, 1, 2, 3, 40, 120, 255, 256, 257, 998, 999, 1000} {
		for _, id := range []api.Key{a, b, {}} {
			l := oracle.Good(id, n)
			if len(l) != n {
				t.Error(n, len(l))
			}
			for i, v := range l {
				if v.Tx != id || v.Item != i || !v.Good {
					t.Fatal(n, i, v)
				}
			}
		}
	}
	for _, n := range []int{math.MinInt, math.MinInt32, -1000, -2, -1, 1001, 1002, 2000, 65536, 1 << 32, 1<<32 + 5, math.MaxInt - 1, math.MaxInt} {
		if l := oracle.Good(a, n); len(l) != 0 {
			t.Error(n, len(l))
		}
	}
}

// P15.3: what is good by Good is all good, whatever stands behind it; what stands ahead of it may say otherwise.
func TestWhatFollows(t *testing.T) {
	lists := [][]oracle.Verdict{nil, {{a, 0, false}}, {{a, 999, false}, {b, 0, false}}}
	var bad []oracle.Verdict
	for _, v := range oracle.Good(a, 1000) {
		bad = append(bad, oracle.Verdict{Tx: v.Tx, Item: v.Item})
	}
	lists = append(lists, bad)
	long(func(l []oracle.Verdict) { lists = append(lists, l) })
	for k, rest := range lists {
		for _, n := range []int{0, 1, 2, 41, 120} {
			l := slices.Concat(oracle.Good(a, n), rest)
			for i := range n {
				if !oracle.All(l, a, i) || !oracle.Look(l, a, i) {
					t.Fatal(k, n, i)
				}
			}
			if !oracle.All(l, a, n) {
				t.Fatal(k, n)
			}
			if is := oracle.All(l, b, 1); is != firsts(rest)[what{b, 0}] {
				t.Fatal("another one is good by what is behind alone", k, n, is)
			}
		}
	}
	for _, n := range []int{999, 1000} {
		if !oracle.All(slices.Concat(oracle.Good(a, n), bad), a, n) || oracle.All(slices.Concat(oracle.Good(a, n), bad), a, n+1) {
			t.Error(n)
		}
	}
	if l := slices.Concat([]oracle.Verdict{{a, 1, false}}, oracle.Good(a, 3)); oracle.All(l, a, 3) || !oracle.All(l, a, 1) {
		t.Error("what stands ahead holds")
	}
}

// R3: what is handed in is not changed, and neither is what lies behind a list's length.
func TestKept(t *testing.T) {
	whole := func() api.Tx {
		return api.Tx{Ins: []api.Point{{Tx: a}, {Tx: b}}, Outs: []api.Out{{Value: 1}, {Value: 2}}, Nulls: []api.Key{a, b}, Notes: []api.Key{b, a}, Balance: 3}
	}
	y := whole()
	oracle.Items(api.Tx{Ins: y.Ins[:1], Outs: y.Outs[:1], Nulls: y.Nulls[:1], Notes: y.Notes[:1]})
	if !reflect.DeepEqual(y, whole()) {
		t.Error("a transaction changed")
	}
	l := []oracle.Verdict{{a, 0, true}, {a, 1, true}, {b, 0, false}, {a, 1, false}, {a, 2, true}}
	want := slices.Clone(l)
	for n := range len(l) + 1 {
		if is := oracle.Look(l[:n], a, 2); is != (n == 5) {
			t.Error("what lies behind is none of it", n, is)
		}
		if is := oracle.All(l[:n], a, 3); is != (n == 5) {
			t.Error("what lies behind is none of it", n, is)
		}
	}
	if !slices.Equal(l, want) {
		t.Error(l)
	}
}

// R3, R5: each answer is new memory, and what is done to one changes no other.
func TestAgain(t *testing.T) {
	for range 3 {
		l := oracle.Good(a, 5)
		if len(l) != 5 || !oracle.All(l, a, 5) {
			t.Error(l)
		}
		clear(l[:cap(l)])
		if oracle.All(l, a, 1) || oracle.Look(l, a, 0) {
			t.Error("what is handed in is asked again")
		}
		l[0] = oracle.Verdict{Tx: a, Good: true}
		if !oracle.All(l, a, 1) || !oracle.Look(l, a, 0) {
			t.Error("what is handed in is asked again")
		}
	}
}
