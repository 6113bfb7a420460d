package nulls_test

import (
	"math/rand"
	"slices"
	"testing"

	"thurible/api"
	"thurible/nulls"
)

// key is a key that begins by these bytes.
func key(l ...byte) (k api.Key) {
	copy(k[:], l)
	return k
}

// below is whether a is below b, byte by byte.
func below(a, b api.Key) bool {
	for i := range a {
		if a[i] != b[i] {
			return a[i] < b[i]
		}
	}
	return false
}

// isIn is whether some key of l is k.
func isIn(l []api.Key, k api.Key) bool {
	for _, x := range l {
		if x == k {
			return true
		}
	}
	return false
}

// put is l with k ahead of the first key that it is below, or behind all.
func put(l []api.Key, k api.Key) []api.Key {
	for i, x := range l {
		if below(k, x) {
			return append(append(slices.Clone(l[:i]), k), l[i:]...)
		}
	}
	return append(slices.Clone(l), k)
}

// free is Free, as the document says it.
func free(s, l []api.Key) bool {
	for i, k := range l {
		if isIn(s, k) || isIn(l[:i], k) {
			return false
		}
	}
	return true
}

// spend is Spend, as the document says it.
func spend(s, l []api.Key) ([]api.Key, api.Errno) {
	if !free(s, l) {
		return nil, api.ErrSpent
	}
	u := slices.Clone(s)
	for _, k := range l {
		u = put(u, k)
	}
	return u, api.OK
}

// undo is Undo, as the document says it.
func undo(s, l []api.Key) ([]api.Key, api.Errno) {
	u := slices.Clone(s)
	for _, k := range l {
		i := slices.Index(u, k)
		if i < 0 {
			return nil, api.ErrNone
		}
		u = append(slices.Clone(u[:i]), u[i+1:]...)
	}
	return u, api.OK
}

// same is what Spend and Free answer, which must be just what the document says.
func same(t *testing.T, s, l []api.Key) ([]api.Key, api.Errno) {
	t.Helper()
	u, e := nulls.Spend(s, l)
	wantU, wantE := spend(s, l)
	if !slices.Equal(u, wantU) || e != wantE {
		t.Fatalf("Spend of %x, %x: %x, %d, not %x, %d", s, l, u, e, wantU, wantE)
	}
	if is := nulls.Free(s, l); is != free(s, l) || is != (e == api.OK) {
		t.Fatalf("Free of %x, %x: %v", s, l, is)
	}
	return u, e
}

// sameUndone is what Undo answers, which must be just what the document says.
func sameUndone(t *testing.T, s, l []api.Key) ([]api.Key, api.Errno) {
	t.Helper()
	u, e := nulls.Undo(s, l)
	wantU, wantE := undo(s, l)
	if !slices.Equal(u, wantU) || e != wantE {
		t.Fatalf("Undo of %x, %x: %x, %d, not %x, %d", s, l, u, e, wantU, wantE)
	}
	return u, e
}

// few is a set.
func few() []api.Key {
	return []api.Key{key(1), key(3), {0: 3, 31: 255}, key(3, 0, 1), key(5), key(200)}
}

// short is all lists of up to three out of four keys.
func short() [][]api.Key {
	some := []api.Key{key(), {31: 1}, key(7), key(200)}
	l := [][]api.Key{nil}
	for from := 0; len(l[from]) < 3; from++ {
		for _, k := range some {
			l = append(l, append(slices.Clone(l[from]), k))
		}
	}
	return l
}

// drawn is up to n keys out of few, so that they often meet.
func drawn(r *rand.Rand, n, few int) []api.Key {
	l := make([]api.Key, r.Intn(n+1))
	for i := range l {
		l[i] = key(byte(r.Intn(few)))
		l[i][31] = byte(r.Intn(2))
	}
	return l
}

// set is the keys of l, rising, each once.
func set(l []api.Key) (s []api.Key) {
	for _, k := range l {
		if !isIn(s, k) {
			s = put(s, k)
		}
	}
	return s
}

// rises is whether each key of l is below the next one.
func rises(l []api.Key) bool {
	for i := 1; i < len(l); i++ {
		if !below(l[i-1], l[i]) {
			return false
		}
	}
	return true
}

// P10.1: those of which none is in s, and none twice in l.
func TestFree(t *testing.T) {
	for _, c := range []struct {
		s, l []api.Key
		want bool
	}{
		{nil, nil, true}, {few(), nil, true}, {few(), []api.Key{}, true}, {nil, few(), true},
		{nil, []api.Key{{}}, true}, {few(), []api.Key{{}}, true}, {[]api.Key{{}}, []api.Key{{}}, false}, {[]api.Key{{}}, []api.Key{{31: 1}}, true},
		{few(), []api.Key{key(2)}, true}, {few(), []api.Key{key(1, 1), key(2), {0: 3, 31: 254}, key(0), key(255)}, true},
		{few(), []api.Key{key(1)}, false}, {few(), []api.Key{key(200)}, false}, {few(), []api.Key{{0: 3, 31: 255}}, false},
		{few(), []api.Key{key(2), key(5)}, false}, {few(), []api.Key{key(5), key(2)}, false}, {few(), []api.Key{key(9), key(5), key(2)}, false},
		{nil, []api.Key{key(2), key(2)}, false}, {few(), []api.Key{key(2), key(2)}, false}, {few(), []api.Key{key(2), key(9), key(0), key(2)}, false},
		{[]api.Key{key(5), key(1), key(5)}, []api.Key{key(3), key(2)}, true}, {[]api.Key{key(5), key(1), key(3)}, []api.Key{key(4), key(1)}, false},
	} {
		if got := nulls.Free(c.s, c.l); got != c.want {
			t.Errorf("%x, %x: %v", c.s, c.l, got)
		}
	}
}

// P10.1: each goes to its place in the set, in whatever order they come.
func TestSpend(t *testing.T) {
	s := []api.Key{key(2), key(4)}
	for _, c := range []struct{ s, l, want []api.Key }{
		{nil, nil, nil}, {s, nil, s}, {nil, []api.Key{{}}, []api.Key{{}}}, {[]api.Key{}, s, s},
		{s, []api.Key{key(3)}, []api.Key{key(2), key(3), key(4)}},
		{s, []api.Key{key(9), key(), key(3)}, []api.Key{key(), key(2), key(3), key(4), key(9)}},
		{s, []api.Key{{0: 2, 31: 1}, key(1, 255)}, []api.Key{key(1, 255), key(2), {0: 2, 31: 1}, key(4)}},
		{nil, []api.Key{key(255), key(128), key(127), {31: 1}, key()}, []api.Key{key(), {31: 1}, key(127), key(128), key(255)}},
	} {
		if got, e := nulls.Spend(c.s, c.l); !slices.Equal(got, c.want) || e != api.OK {
			t.Errorf("%x, %x: %x, %d", c.s, c.l, got, e)
		}
	}
}

// P10.1: ErrSpent, wherever the one that is not free stands, and nothing beside it.
func TestSpendSpent(t *testing.T) {
	for _, l := range [][]api.Key{
		{key(1)}, {key(5)}, {key(200)}, {key(2), key(1)}, {key(1), key(2)}, {key(2), key(5), key(9)}, {key(9), key(8), {0: 3, 31: 255}},
		{key(2), key(2)}, {key(2), key(9), key(2)}, {key(9), key(2), key(2)}, {key(1), key(1)}, {{}, {}}, few(),
	} {
		if got, e := nulls.Spend(few(), l); len(got) != 0 || e != api.ErrSpent {
			t.Errorf("%x: %x, %d", l, got, e)
		}
		same(t, few(), l)
	}
	if got, e := nulls.Spend(nil, []api.Key{{}, {}}); len(got) != 0 || e != api.ErrSpent {
		t.Errorf("twice in none: %x, %d", got, e)
	}
}

// P10.2: each goes, in whatever order they are named.
func TestUndo(t *testing.T) {
	l := few()
	for _, c := range []struct{ s, l, want []api.Key }{
		{nil, nil, nil}, {l, nil, l}, {[]api.Key{{}}, []api.Key{{}}, nil}, {l, l, nil},
		{l, []api.Key{l[0]}, l[1:]}, {l, []api.Key{l[5]}, l[:5]}, {l, []api.Key{l[4], l[0], l[5]}, l[1:4]},
		{l, []api.Key{l[3], l[2]}, []api.Key{l[0], l[1], l[4], l[5]}},
	} {
		if got, e := nulls.Undo(c.s, c.l); !slices.Equal(got, c.want) || e != api.OK {
			t.Errorf("%x, %x: %x, %d", c.s, c.l, got, e)
		}
	}
}

// P10.2: ErrNone, if one of them is not there, or not there any more, and nothing beside it.
func TestUndoNone(t *testing.T) {
	for _, l := range [][]api.Key{
		{{}}, {key(2)}, {key(255)}, {{0: 3, 31: 254}}, {key(1), key(2)}, {key(2), key(1)}, {key(1), key(2), key(5)},
		{key(1), key(1)}, {key(1), key(5), key(1)}, append(few(), key(1)), append([]api.Key{key(0)}, few()...),
	} {
		if got, e := nulls.Undo(few(), l); len(got) != 0 || e != api.ErrNone {
			t.Errorf("%x: %x, %d", l, got, e)
		}
	}
	if got, e := nulls.Undo(nil, []api.Key{{}}); len(got) != 0 || e != api.ErrNone {
		t.Errorf("of none: %x, %d", got, e)
	}
}

// P10.1 and P10.2: of lists that are no sets, as Insert and Remove have it.
func TestOther(t *testing.T) {
	s := []api.Key{key(5), key(1), key(5), key(2)}
	if got, e := same(t, s, []api.Key{key(9), key(3)}); !slices.Equal(got, []api.Key{key(3), key(5), key(1), key(5), key(2), key(9)}) || e != api.OK {
		t.Errorf("%x, %d", got, e)
	}
	if got, e := same(t, s, []api.Key{key(9), key(2)}); len(got) != 0 || e != api.ErrSpent {
		t.Errorf("%x, %d", got, e)
	}
	if got, e := sameUndone(t, s, []api.Key{key(5)}); !slices.Equal(got, s[1:]) || e != api.OK {
		t.Errorf("%x, %d", got, e)
	}
	if got, e := sameUndone(t, s, []api.Key{key(5), key(2), key(5)}); !slices.Equal(got, []api.Key{key(1)}) || e != api.OK {
		t.Errorf("%x, %d", got, e)
	}
	if got, e := sameUndone(t, s, []api.Key{key(5), key(5), key(5)}); len(got) != 0 || e != api.ErrNone {
		t.Errorf("%x, %d", got, e)
	}
}

// P10.1 and P10.2: all pairs of short lists.
func TestShort(t *testing.T) {
	l := short()
	for _, s := range l {
		for _, x := range l {
			same(t, s, x)
			sameUndone(t, s, x)
		}
	}
}

// P10.1 and P10.2: of longer lists, as they are drawn, and of some hundreds.
func TestLong(t *testing.T) {
	r := rand.New(rand.NewSource(10))
	told := map[api.Errno]int{}
	for i := range 4000 {
		s := drawn(r, 30, 256)
		if i%2 == 0 {
			s = set(s)
		}
		_, e := same(t, s, drawn(r, 10, 256))
		told[e]++
		_, e = sameUndone(t, s, s[:r.Intn(len(s)+1)])
		told[100+e]++
		_, e = sameUndone(t, s, drawn(r, 2, 256))
		told[100+e]++
	}
	for _, e := range []api.Errno{api.OK, api.ErrSpent, 100, 100 + api.ErrNone} {
		if told[e] < 300 {
			t.Errorf("%d: only %d times", e, told[e])
		}
	}
	var many []api.Key
	for i := range 600 {
		many = append(many, key(byte(i*7), byte(i>>8)))
	}
	s, e := same(t, nil, many)
	if len(s) != 600 || !rises(s) || e != api.OK {
		t.Errorf("%d, %d", len(s), e)
	}
	if none, e := sameUndone(t, s, many); len(none) != 0 || e != api.OK {
		t.Errorf("%d, %d", len(none), e)
	}
}

// P10.3: what is spent is not free any more, and others are as free as they were; what was undone is as it was, and free again.
func TestWhatFollows(t *testing.T) {
	r := rand.New(rand.NewSource(103))
	many := 0
	for range 6000 {
		s, l := set(drawn(r, 20, 64)), drawn(r, 5, 64)
		u, e := nulls.Spend(s, l)
		if e != api.OK {
			continue
		}
		many++
		if !rises(u) || len(u) != len(s)+len(l) {
			t.Fatalf("%x, %x: %x", s, l, u)
		}
		for i := range l {
			if nulls.Free(u, l[i:i+1]) {
				t.Fatalf("%x, %x: %x is free", s, l, l[i])
			}
		}
		if other := key(99); !nulls.Free(u, []api.Key{other}) {
			t.Fatalf("%x, %x: %x is not free", s, l, other)
		}
		back, e := nulls.Undo(u, l)
		if !slices.Equal(back, s) || e != api.OK || !nulls.Free(back, l) {
			t.Fatalf("%x, %x: %x, %d", s, l, back, e)
		}
	}
	if many < 2000 {
		t.Errorf("only %d", many)
	}
}

// P10.3: many that follow each other are undone from the last one on.
func TestManyUndone(t *testing.T) {
	type step struct{ before, l []api.Key }
	r := rand.New(rand.NewSource(104))
	var s []api.Key
	var steps []step
	for range 300 {
		l := drawn(r, 3, 256)
		if u, e := same(t, s, l); e == api.OK {
			steps = append(steps, step{s, l})
			s = u
		}
	}
	for _, st := range slices.Backward(steps) {
		back, e := sameUndone(t, s, st.l)
		if !rises(s) || !slices.Equal(back, st.before) || e != api.OK {
			t.Fatalf("%x: %x, %d", st.l, back, e)
		}
		s = back
	}
	if len(steps) < 100 || len(s) != 0 {
		t.Errorf("%d, %x", len(steps), s)
	}
}

// R3: what is handed in is not changed, what lies behind its length neither, also with an error.
func TestNothingIsChanged(t *testing.T) {
	r := rand.New(rand.NewSource(3))
	for i := range 4000 {
		whole, behind := drawn(r, 12, 12), drawn(r, 6, 12)
		if i%2 == 0 {
			whole = set(whole)
		}
		wasWhole, wasBehind := slices.Clone(whole), slices.Clone(behind)
		s, l := whole[:r.Intn(len(whole)+1)], behind[:r.Intn(len(behind)+1)]
		nulls.Free(s, l)
		nulls.Spend(s, l)
		nulls.Undo(s, l)
		nulls.Undo(s, s)
		nulls.Spend(s, s)
		if !slices.Equal(whole, wasWhole) || !slices.Equal(behind, wasBehind) {
			t.Fatalf("%x, %x: %x, %x", wasWhole, wasBehind, whole, behind)
		}
	}
}

// scratch writes over a list, and what lies behind its length.
func scratch(l []api.Key) {
	l = l[:cap(l)]
	for i := range l {
		l[i] = key(66)
	}
}

// R3: an answer is new memory, also where nothing comes or goes.
func TestAnswersAreNew(t *testing.T) {
	for n := range len(few()) + 1 {
		whole := few()
		s := whole[:n]
		for _, l := range [][]api.Key{nil, {}, {key(0)}, {key(4), key(255)}} {
			was := slices.Clone(l)
			u, _ := nulls.Spend(s, l)
			scratch(u)
			if !slices.Equal(whole, few()) || !slices.Equal(l, was) {
				t.Fatalf("Spend of %x, %x: %x, %x", s, was, whole, l)
			}
		}
		for _, l := range [][]api.Key{nil, {}, s[:n/2], s[n/2:], s} {
			v, e := nulls.Undo(s, l)
			scratch(v)
			if !slices.Equal(whole, few()) || e != api.OK {
				t.Fatalf("Undo of %x, %x: %x, %d", s, l, whole, e)
			}
		}
	}
}

// R3: two that go on from the same set know nothing of each other.
func TestFork(t *testing.T) {
	s, _ := nulls.Spend(nil, few())
	one, _ := nulls.Spend(s, []api.Key{key(210)})
	two, _ := nulls.Spend(s, []api.Key{key(220)})
	less, _ := nulls.Undo(one, []api.Key{key(210)})
	again, _ := nulls.Spend(less, []api.Key{key(230)})
	for _, c := range []struct{ got, want []api.Key }{
		{s, few()}, {one, append(few(), key(210))}, {two, append(few(), key(220))}, {less, few()}, {again, append(few(), key(230))},
	} {
		if !slices.Equal(c.got, c.want) || !rises(c.got) {
			t.Errorf("%x, not %x", c.got, c.want)
		}
	}
}
