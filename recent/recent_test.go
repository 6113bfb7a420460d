package recent_test

import (
	"math"
	"math/big"
	"math/rand"
	"slices"
	"testing"

	"thurible/api"
	"thurible/recent"
)

// id is a key that another number has another one of; its last byte alone tells it.
func id(n int) api.Key {
	return api.Key{0: 5, 30: byte(n >> 8), 31: byte(n)}
}

// item is the nth transaction, evicted at a time.
func item(n int, at uint64) recent.Item {
	return recent.Item{Id: id(n), At: at}
}

// items are those from the first up to ahead of the end, evicted at ten times their numbers.
func items(first, end int) []recent.Item {
	var l []recent.Item
	for i := first; i < end; i++ {
		l = append(l, item(i, uint64(10*i)))
	}
	return l
}

// lists are all lists of up to n of those items, each as often as it likes.
func lists(n int, of []recent.Item) [][]recent.Item {
	all := [][]recent.Item{nil}
	for from := 0; n > 0; n-- {
		to := len(all)
		for _, l := range all[from:to] {
			for _, x := range of {
				all = append(all, append(slices.Clone(l), x))
			}
		}
		from = to
	}
	return all
}

// chance is a list of n items by chance: their times are near those that are handed in.
func chance(r *rand.Rand, n, ids int, times []uint64) []recent.Item {
	var l []recent.Item
	for range n {
		l = append(l, item(r.Intn(ids), times[r.Intn(len(times))]+uint64(r.Intn(150))-75))
	}
	return l
}

// put is Put, as the document says it.
func put(l []recent.Item, k api.Key, now uint64) []recent.Item {
	var all []recent.Item
	for _, x := range l {
		if x.Id != k {
			all = append(all, x)
		}
	}
	all = append(all, recent.Item{Id: k, At: now})
	for len(all) > 5 {
		all = all[1:]
	}
	return all
}

// lasts is whether now is below at and 60, in numbers without bounds.
func lasts(at, now uint64) bool {
	end := new(big.Int).Add(new(big.Int).SetUint64(at), big.NewInt(60))
	return new(big.Int).SetUint64(now).Cmp(end) < 0
}

// has is Has, as the document says it.
func has(l []recent.Item, k api.Key, now uint64) bool {
	for i := range l {
		if l[i].Id == k && lasts(l[i].At, now) {
			return true
		}
	}
	return false
}

// old is Old, as the document says it.
func old(l []recent.Item, now uint64) []recent.Item {
	var all []recent.Item
	for i := range l {
		if lasts(l[i].At, now) {
			all = append(all, l[i])
		}
	}
	return all
}

// edges are times about each one at which something is over, or may go round.
func edges() []uint64 {
	var l []uint64
	for _, x := range []uint64{0, 60, 120, 1 << 31, 1 << 32, 1 << 63, math.MaxUint64 - 60, math.MaxUint64 - 120} {
		for d := range uint64(7) {
			l = append(l, x+d-3)
		}
	}
	return l
}

// P18.1: one by one: five at the most, the first ones go.
func TestPutOneByOne(t *testing.T) {
	var l []recent.Item
	for n := 1; n <= 300; n++ {
		l = recent.Put(l, id(n-1), uint64(10*(n-1)))
		if want := items(max(0, n-5), n); !slices.Equal(l, want) {
			t.Errorf("%d: %v, not %v", n, l, want)
		}
	}
}

// P18.1: what is there already goes, wherever it stands, and stands behind with its new time, also an earlier one, or the same.
func TestPutAgain(t *testing.T) {
	for n := 1; n <= 5; n++ {
		for i := range n {
			for _, now := range []uint64{0, uint64(10 * i), 999} {
				l := items(0, n)
				want := append(slices.Delete(slices.Clone(l), i, i+1), item(i, now))
				if got := recent.Put(l, id(i), now); !slices.Equal(got, want) {
					t.Errorf("%d of %d at %d: %v, not %v", i, n, now, got, want)
				}
			}
		}
	}
}

// P18.1: all lists of few, also such that have an id more than once, or too many.
func TestPut(t *testing.T) {
	of := []recent.Item{item(0, 1), item(1, 2), item(2, 3), item(0, 7)}
	for _, l := range lists(7, of) {
		for n := range 4 {
			if want, got := put(l, id(n), 5), recent.Put(l, id(n), 5); !slices.Equal(got, want) {
				t.Fatalf("%d to %v: %v, not %v", n, l, got, want)
			}
		}
	}
}

// P18.1: lists of any length; no time is looked at.
func TestPutLong(t *testing.T) {
	r := rand.New(rand.NewSource(181))
	for i := range 3000 {
		n := i % 20
		if i%50 == 0 {
			n = r.Intn(400)
		}
		l, k, now := chance(r, n, 1+r.Intn(12), edges()), id(r.Intn(12)), r.Uint64()
		if want, got := put(l, k, now), recent.Put(l, k, now); !slices.Equal(got, want) {
			t.Fatalf("%v: %v, not %v", l, got, want)
		}
	}
}

// P18.1: a list without elements, be it nil or not, and the key 0, which is one like each other.
func TestPutFirst(t *testing.T) {
	for _, l := range [][]recent.Item{nil, {}, make([]recent.Item, 0, 9), make([]recent.Item, 1), make([]recent.Item, 7)} {
		if got := recent.Put(l, api.Key{}, 4); !slices.Equal(got, []recent.Item{{At: 4}}) {
			t.Errorf("%v: %v", l, got)
		}
	}
	if got := recent.Put([]recent.Item{{At: 3}}, id(1), 4); !slices.Equal(got, []recent.Item{{At: 3}, item(1, 4)}) {
		t.Error(got)
	}
}

// P18.1, P18.2: an id counts as a whole.
func TestWhole(t *testing.T) {
	l := []recent.Item{item(1, 3)}
	for i := range len(api.Key{}) {
		k := id(1)
		k[i] ^= 1
		if got := recent.Put(l, k, 4); !slices.Equal(got, []recent.Item{item(1, 3), {Id: k, At: 4}}) {
			t.Errorf("another byte %d: %v", i, got)
		}
		if recent.Has(l, k, 4) {
			t.Errorf("another byte %d", i)
		}
	}
}

// P18.2: up to its time and 60, also below its time.
func TestHas(t *testing.T) {
	l := []recent.Item{item(1, 100)}
	for _, x := range []struct {
		now uint64
		is  bool
	}{{0, true}, {39, true}, {40, true}, {41, true}, {99, true}, {100, true}, {101, true}, {159, true}, {160, false}, {161, false}, {1 << 32, false}, {1<<32 + 100, false}, {math.MaxUint64, false}} {
		if recent.Has(l, id(1), x.now) != x.is {
			t.Errorf("at %d", x.now)
		}
		if (len(recent.Old(l, x.now)) == 1) != x.is {
			t.Errorf("old at %d", x.now)
		}
		if recent.Has(l, id(2), x.now) {
			t.Errorf("another one at %d", x.now)
		}
	}
}

// P18.2: no number goes round: the last 60 times are never over.
func TestLastTimes(t *testing.T) {
	for d := range uint64(130) {
		at := math.MaxUint64 - d
		l := []recent.Item{item(1, at)}
		if got := recent.Has(l, id(1), math.MaxUint64); got != (d < 60) {
			t.Errorf("%d: %v", at, got)
		}
		if got := recent.Old(l, math.MaxUint64); (len(got) == 1) != (d < 60) {
			t.Errorf("%d: %v", at, got)
		}
		if !recent.Has(l, id(1), 0) || len(recent.Old(l, 0)) != 1 {
			t.Errorf("%d: over at 0", at)
		}
	}
}

// P18.2: all pairs of times about the edges.
func TestTimes(t *testing.T) {
	for _, at := range edges() {
		for _, now := range edges() {
			l := []recent.Item{item(1, at)}
			if want, got := lasts(at, now), recent.Has(l, id(1), now); got != want {
				t.Errorf("%d at %d: %v", at, now, got)
			}
			if want, got := old(l, now), recent.Old(l, now); !slices.Equal(got, want) {
				t.Errorf("%d at %d: %v", at, now, got)
			}
		}
	}
}

// P18.2: some item of that id is enough, wherever it stands, whatever others of it are.
func TestHasSeveral(t *testing.T) {
	of := []recent.Item{item(0, 0), item(0, 40), item(1, 20), item(1, 60)}
	for _, l := range lists(5, of) {
		for n := range 3 {
			for _, now := range []uint64{0, 59, 60, 79, 80, 99, 100, 119, 120} {
				if want, got := has(l, id(n), now), recent.Has(l, id(n), now); got != want {
					t.Fatalf("%d at %d in %v: %v", n, now, l, got)
				}
			}
		}
	}
}

// P18.2: in order, each by its own time alone: not by another one of its id, nor by one ahead of it.
func TestOld(t *testing.T) {
	of := []recent.Item{item(0, 0), item(0, 40), item(1, 20), item(1, 60)}
	for _, l := range lists(5, of) {
		for _, now := range []uint64{0, 59, 60, 79, 80, 99, 100, 119, 120} {
			if want, got := old(l, now), recent.Old(l, now); !slices.Equal(got, want) {
				t.Fatalf("%v at %d: %v, not %v", l, now, got, want)
			}
		}
	}
}

// P18.2: lists of any length, also longer ones than Put makes.
func TestLong(t *testing.T) {
	r := rand.New(rand.NewSource(182))
	for i := range 3000 {
		n := i % 20
		if i%50 == 0 {
			n = r.Intn(400)
		}
		near := edges()[r.Intn(len(edges())):][:1]
		l, k, now := chance(r, n, 1+r.Intn(12), near), id(r.Intn(12)), near[0]+uint64(r.Intn(150))-75
		if want, got := has(l, k, now), recent.Has(l, k, now); got != want {
			t.Fatalf("%x at %d in %v: %v", k, now, l, got)
		}
		if want, got := old(l, now), recent.Old(l, now); !slices.Equal(got, want) {
			t.Fatalf("%v at %d: %v, not %v", l, now, got, want)
		}
	}
}

// P18.2: nothing is in a list without elements.
func TestNone(t *testing.T) {
	for _, l := range [][]recent.Item{nil, {}, make([]recent.Item, 0, 9)} {
		for _, now := range edges() {
			if recent.Has(l, api.Key{}, now) || len(recent.Old(l, now)) != 0 {
				t.Errorf("at %d", now)
			}
		}
	}
}

// log is what was put, the last one at the end.
type log []recent.Item

// since is when k was put at last, and how many others were put behind that; false, if it never was.
func (l log) since(k api.Key) (at uint64, others int, is bool) {
	seen := map[api.Key]int{}
	for i := len(l) - 1; i >= 0; i-- {
		if l[i].Id == k {
			return l[i].At, len(seen), true
		}
		seen[l[i].Id] = i
	}
	return 0, 0, false
}

// P18.3: never more than five behind a Put; each is there until its time is over, unless five others are put behind it.
func TestWalk(t *testing.T) {
	r := rand.New(rand.NewSource(183))
	for range 100 {
		var l []recent.Item
		var all log
		now, ids := uint64(r.Intn(50)), 3+r.Intn(8)
		for range 80 {
			k := id(r.Intn(ids))
			l, all = recent.Put(l, k, now), append(all, recent.Item{Id: k, At: now})
			if len(l) > 5 {
				t.Fatalf("%d of them", len(l))
			}
			for n := range ids {
				for _, later := range []uint64{0, 1, 20, 40, 58, 59, 60, 61, 100} {
					at, others, is := all.since(id(n))
					want := is && others < 5 && now+later < at+60
					if got := recent.Has(l, id(n), now+later); got != want {
						t.Fatalf("%d at %d: %v behind %v", n, now+later, got, all)
					}
				}
			}
			now += uint64(r.Intn(30))
			if r.Intn(3) == 0 {
				l = recent.Old(l, now)
			}
		}
	}
}

// P18.3: others that are put again and again are so many once alone.
func TestOthersAgain(t *testing.T) {
	l := recent.Put(nil, id(0), 0)
	for i := range 40 {
		l = recent.Put(l, id(1+i%4), 1)
	}
	if !recent.Has(l, id(0), 59) || recent.Has(l, id(0), 60) || len(l) != 5 {
		t.Error(l)
	}
	if l = recent.Put(l, id(5), 2); recent.Has(l, id(0), 2) || !recent.Has(l, id(1), 60) {
		t.Error(l)
	}
}

// R3, R5: nothing that is handed in is changed or kept, and two that go on from one list don't meet.
func TestMemory(t *testing.T) {
	for n := range 12 {
		mixed := append(items(n/2, n), items(0, n/2)...)
		for _, k := range []api.Key{{}, id(0), id(n - 1), id(5), id(99)} {
			for _, now := range []uint64{0, 70, 100, math.MaxUint64} {
				args := []any{mixed, k, now}
				kept(t, "Put", args, func(a []any) []any {
					return []any{recent.Put(a[0].([]recent.Item), a[1].(api.Key), a[2].(uint64))}
				})
				kept(t, "Has", args, func(a []any) []any {
					return []any{recent.Has(a[0].([]recent.Item), a[1].(api.Key), a[2].(uint64))}
				})
				kept(t, "Old", args, func(a []any) []any {
					return []any{recent.Old(a[0].([]recent.Item), a[2].(uint64))}
				})
			}
		}
		l := recent.Put(items(0, n), id(50), 1)
		a, b, c := recent.Put(l, id(51), 2), recent.Put(l, id(52), 3), append(recent.Old(l, 0), item(53, 4))
		if a[len(a)-1] != item(51, 2) || b[len(b)-1] != item(52, 3) || !apart([]any{a, b, c}, []any{l}) {
			t.Error(n, "meet")
		}
	}
}
