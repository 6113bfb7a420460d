package anchor_test

import (
	"slices"
	"testing"

	"thurible/anchor"
	"thurible/api"
)

// root is a key that another number has another one of; its last byte alone tells it.
func root(n int) api.Key {
	return api.Key{0: 5, 30: byte(n >> 8), 31: byte(n)}
}

// roots are those from the first up to ahead of the end.
func roots(first, end int) []api.Key {
	var l []api.Key
	for i := first; i < end; i++ {
		l = append(l, root(i))
	}
	return l
}

// lists are lists of each length around what a ring has, longer ones than a ring may have, and some with keys that are alike, or 0.
func lists() [][]api.Key {
	l := [][]api.Key{nil, {}, make([]api.Key, 1), make([]api.Key, 5), make([]api.Key, 8), make([]api.Key, 9)}
	for n := 1; n <= 20; n++ {
		l = append(l, roots(0, n), slices.Repeat(roots(0, 2), n)[:n], slices.Repeat(roots(3, 4), n))
	}
	return append(l, roots(0, 300), append(make([]api.Key, 3), roots(0, 6)...), append(roots(0, 6), make([]api.Key, 3)...))
}

// put is Put of a list, as the document says it.
func put(l []api.Key, k api.Key) []api.Key {
	all := append(slices.Clone(l), k)
	for len(all) > 8 {
		all = all[1:]
	}
	return all
}

// has is Has of a list, as the document says it.
func has(l []api.Key, k api.Key) bool {
	for back := 1; back <= 4 && back <= len(l); back++ {
		if l[len(l)-back] == k {
			return true
		}
	}
	return false
}

// filled is a ring to which n roots were put, from the 0th on.
func filled(n int) anchor.Ring {
	r := anchor.New(root(0))
	for i := 1; i < n; i++ {
		r = anchor.Put(r, root(i))
	}
	return r
}

// P8.1: a ring of one, whatever it is.
func TestNew(t *testing.T) {
	for _, k := range append(roots(0, 5), api.Key{}) {
		if r := anchor.New(k); !slices.Equal(r.L, []api.Key{k}) {
			t.Errorf("%x: %x", k, r.L)
		}
	}
}

// P8.1: one by one from New on: eight at the most, the first ones go.
func TestPutOneByOne(t *testing.T) {
	for n := 1; n <= 40; n++ {
		if got, want := filled(n).L, roots(max(0, n-8), n); !slices.Equal(got, want) {
			t.Errorf("%d: %x, not %x", n, got, want)
		}
	}
}

// P8.1: of any ring, also of none and of one that has too many; what is there already comes in again.
func TestPut(t *testing.T) {
	for _, l := range lists() {
		for _, k := range []api.Key{{}, root(0), root(1), root(3), root(250), root(999)} {
			if got, want := anchor.Put(anchor.Ring{L: l}, k).L, put(l, k); !slices.Equal(got, want) {
				t.Errorf("%d with %x: %x, not %x", len(l), k, got, want)
			}
		}
	}
}

// P8.1: all but the last one, also of a ring that has too many.
func TestBack(t *testing.T) {
	for _, l := range lists() {
		if len(l) < 2 {
			continue
		}
		got, e := anchor.Back(anchor.Ring{L: l})
		if !slices.Equal(got.L, l[:len(l)-1]) || e != api.OK {
			t.Errorf("%x: %x, %d", l, got.L, e)
		}
	}
}

// P8.1: none, and one alone, can't be put back.
func TestBackTooDeep(t *testing.T) {
	for _, r := range []anchor.Ring{{}, {L: []api.Key{}}, {L: make([]api.Key, 0, 9)}, {L: make([]api.Key, 1)}, {L: roots(0, 9)[:1]}, anchor.New(root(7))} {
		if got, e := anchor.Back(r); len(got.L) != 0 || e != api.ErrDeep {
			t.Errorf("%x: %x, %d", r.L, got.L, e)
		}
	}
}

// P8.2: the last four, and no other one.
func TestHas(t *testing.T) {
	for n := 1; n <= 20; n++ {
		for i := range 25 {
			if got, want := anchor.Has(filled(n), root(i)), i < n && i >= n-4; got != want {
				t.Errorf("%d of %d: %v", i, n, got)
			}
		}
	}
	for _, l := range lists() {
		for _, k := range append(roots(0, 12), api.Key{}, root(296), root(295), root(299), root(300)) {
			if got := anchor.Has(anchor.Ring{L: l}, k); got != has(l, k) {
				t.Errorf("%x in %x: %v", k, l, got)
			}
		}
	}
}

// P8.2: a key counts as a whole, the key 0 like each other one.
func TestHasWhole(t *testing.T) {
	r := anchor.New(root(1))
	for i := range len(api.Key{}) {
		k := root(1)
		k[i] ^= 1
		if anchor.Has(r, k) {
			t.Errorf("another byte %d", i)
		}
	}
	if !anchor.Has(anchor.New(api.Key{}), api.Key{}) || anchor.Has(r, api.Key{}) {
		t.Error("the key 0")
	}
	for _, l := range [][]api.Key{nil, {}, make([]api.Key, 0, 4)} {
		if anchor.Has(anchor.Ring{L: l}, api.Key{}) {
			t.Error("the key 0 in none")
		}
	}
}

// P8.2: what comes in again has its newest place.
func TestHasAgain(t *testing.T) {
	r := filled(6)
	r = anchor.Put(r, root(0))
	for i := range 4 {
		if !anchor.Has(r, root(0)) {
			t.Errorf("behind %d more", i)
		}
		r = anchor.Put(r, root(10+i))
	}
	if anchor.Has(r, root(0)) {
		t.Error("behind 4 more")
	}
}

// P8.2: the last one, and true; of none 0 and false.
func TestLast(t *testing.T) {
	for _, l := range lists() {
		k, is := anchor.Last(anchor.Ring{L: l})
		if len(l) == 0 {
			if k != (api.Key{}) || is {
				t.Errorf("of none: %x, %v", k, is)
			}
			continue
		}
		if k != l[len(l)-1] || !is {
			t.Errorf("%x: %x, %v", l, k, is)
		}
	}
	if k, is := anchor.Last(anchor.Ring{L: roots(0, 3)[:0]}); k != (api.Key{}) || is {
		t.Errorf("behind the length: %x, %v", k, is)
	}
}

// P8.3: put, and put back: as it was, but for what went.
func TestPutBack(t *testing.T) {
	for n := 1; n <= 20; n++ {
		for more := 1; more <= 7; more++ {
			r := filled(n)
			for i := range more {
				r = anchor.Put(r, root(100+i))
			}
			for range more {
				var e api.Errno
				if r, e = anchor.Back(r); e != api.OK {
					t.Fatalf("%d and %d: %d", n, more, e)
				}
			}
			if want := roots(max(0, n+more-8), n); !slices.Equal(r.L, want) {
				t.Errorf("%d and %d: %x, not %x", n, more, r.L, want)
			}
		}
	}
}

// P8.3: four times from a full one, and there are the four anchors that there were then.
func TestUndo(t *testing.T) {
	for n := 8; n <= 30; n++ {
		r := filled(n)
		for back := 1; back <= 4; back++ {
			var e api.Errno
			if r, e = anchor.Back(r); e != api.OK {
				t.Fatalf("%d, %d back: %d", n, back, e)
			}
			for i := range n + 2 {
				if got, want := anchor.Has(r, root(i)), anchor.Has(filled(n-back), root(i)); got != want {
					t.Errorf("%d, %d back: %d: %v", n, back, i, got)
				}
			}
			if k, is := anchor.Last(r); k != root(n-back-1) || !is {
				t.Errorf("%d, %d back: last %x, %v", n, back, k, is)
			}
		}
	}
}

// P8.1: a full one can be put back seven times, till it is of one alone.
func TestBackToTheEnd(t *testing.T) {
	r := filled(12)
	for back := 1; back <= 7; back++ {
		var e api.Errno
		if r, e = anchor.Back(r); !slices.Equal(r.L, roots(4, 12-back)) || e != api.OK {
			t.Errorf("%d back: %x, %d", back, r.L, e)
		}
	}
	for range 3 {
		if got, e := anchor.Back(r); len(got.L) != 0 || e != api.ErrDeep {
			t.Errorf("%x, %d", got.L, e)
		}
	}
}

// R3: what is handed in is not changed, what lies behind its length neither.
func TestNothingIsChanged(t *testing.T) {
	l := roots(0, 24)
	for n := range 20 {
		r := anchor.Ring{L: l[:n]}
		anchor.Put(r, root(99))
		anchor.Has(r, root(2))
		anchor.Last(r)
		if b, e := anchor.Back(r); e == api.OK {
			_ = append(b.L, root(98))
		}
		if !slices.Equal(l, roots(0, 24)) || len(r.L) != n {
			t.Fatalf("%d: %x", n, l)
		}
	}
}

// R3: an answer is new memory: neither it nor what it was made of changes with the other one.
func TestNothingIsShared(t *testing.T) {
	for n := 1; n <= 12; n++ {
		made := func(change func(anchor.Ring) anchor.Ring) {
			r := anchor.Ring{L: roots(0, n)}
			got := change(r)
			want := slices.Clone(got.L)
			clear(r.L)
			if !slices.Equal(got.L, want) {
				t.Errorf("%d: %x, not %x", n, got.L, want)
			}
			r = anchor.Ring{L: roots(0, n)}
			clear(change(r).L)
			if !slices.Equal(r.L, roots(0, n)) {
				t.Errorf("%d: changed to %x", n, r.L)
			}
		}
		made(func(r anchor.Ring) anchor.Ring { return anchor.Put(r, root(50)) })
		made(func(r anchor.Ring) anchor.Ring {
			b, _ := anchor.Back(r)
			return b
		})
	}
}

// R3 and P8.3: two that go on from one ring, as behind a reorg, know nothing of each other.
func TestFork(t *testing.T) {
	for n := 1; n <= 12; n++ {
		r := filled(n)
		if b, e := anchor.Back(filled(n + 1)); e == api.OK && n < 8 {
			r = b
		}
		was := slices.Clone(r.L)
		one := anchor.Put(r, root(60))
		two := anchor.Put(r, root(61))
		if !slices.Equal(one.L, put(was, root(60))) || !slices.Equal(two.L, put(was, root(61))) || !slices.Equal(r.L, was) {
			t.Errorf("%d: %x, %x, %x", n, one.L, two.L, r.L)
		}
	}
}

// R5: what was told before changes no answer.
func TestAgain(t *testing.T) {
	for range 3 {
		clear(anchor.New(root(1)).L)
		clear(anchor.Put(filled(9), root(2)).L)
		if !slices.Equal(anchor.New(root(1)).L, roots(1, 2)) || !slices.Equal(filled(9).L, roots(1, 9)) {
			t.Error("another answer")
		}
	}
}
