package keys_test

import (
	"math/big"
	"math/rand"
	"slices"
	"testing"

	"thurible/api"
	"thurible/keys"
)

// key begins by these bytes.
func key(l ...byte) api.Key {
	var k api.Key
	copy(k[:], l)
	return k
}

// below is whether a is below b, as numbers whose highest byte is the first one.
func below(a, b api.Key) bool {
	return new(big.Int).SetBytes(a[:]).Cmp(new(big.Int).SetBytes(b[:])) < 0
}

// edges are keys that differ in the first byte, in the last one, in between, and by the highest bit.
func edges() []api.Key {
	var all api.Key
	for i := range all {
		all[i] = 255
	}
	most := all
	most[31] = 254
	return []api.Key{
		{}, {31: 1}, {31: 127}, {31: 128}, {31: 255}, {30: 1}, {30: 1, 31: 1}, {16: 1}, {15: 1, 16: 255}, {8: 1}, {7: 1}, {1: 255},
		key(1), key(1, 0, 1), key(1, 9), key(2), key(127), key(127, 255), key(128), key(128, 0, 0, 7), key(255), {0: 255, 31: 255}, most, all,
	}
}

// drawn are n keys, of which many begin alike, and some are the same.
func drawn(r *rand.Rand, n int) []api.Key {
	l := make([]api.Key, n)
	for i := range l {
		l[i][r.Intn(32)] = byte(r.Intn(4))
		l[i][r.Intn(4)] = byte(64 * r.Intn(4))
	}
	return l
}

// lists are all of up to five out of four keys, and longer ones: as they were drawn, and rising.
func lists() [][]api.Key {
	some := []api.Key{key(), {31: 200}, key(5), key(200)}
	l := [][]api.Key{nil}
	for from := 0; len(l[from]) < 5; from++ {
		for _, k := range some {
			l = append(l, append(slices.Clone(l[from]), k))
		}
	}
	r := rand.New(rand.NewSource(4))
	for n := range 40 {
		x := drawn(r, 10*n)
		l = append(l, x, sorted(x), set(x))
	}
	return l
}

// asked are keys that are in l, and others that are below, between and above those.
func asked(l []api.Key) []api.Key {
	out := []api.Key{{}, {31: 1}, {31: 200}, key(3), key(5), key(5, 1), key(200), key(255)}
	for i := 0; i < len(l); i += 1 + len(l)/20 {
		near := l[i]
		near[31]++
		out = append(out, l[i], near)
	}
	return out
}

// sorted is l, rising: each key goes ahead of the first one that it is below.
func sorted(l []api.Key) []api.Key {
	var out []api.Key
	for _, k := range l {
		out = slices.Insert(out, ahead(out, k), k)
	}
	return out
}

// set is the keys of l, rising, each once.
func set(l []api.Key) []api.Key {
	var out []api.Key
	for _, k := range sorted(l) {
		if len(out) == 0 || out[len(out)-1] != k {
			out = append(out, k)
		}
	}
	return out
}

// isSet is whether each key of l is below the next one.
func isSet(l []api.Key) bool {
	for i := 1; i < len(l); i++ {
		if !below(l[i-1], l[i]) {
			return false
		}
	}
	return true
}

// ahead is the place of the first key that k is below, or behind all.
func ahead(l []api.Key, k api.Key) int {
	for i, x := range l {
		if below(k, x) {
			return i
		}
	}
	return len(l)
}

// first is the place of the first k, or below 0.
func first(l []api.Key, k api.Key) int {
	for i, x := range l {
		if x == k {
			return i
		}
	}
	return -1
}

// inserted is Insert, as the document says it.
func inserted(l []api.Key, k api.Key) ([]api.Key, bool) {
	if first(l, k) >= 0 {
		return l, false
	}
	return slices.Insert(slices.Clone(l), ahead(l, k), k), true
}

// removed is Remove, as the document says it.
func removed(l []api.Key, k api.Key) ([]api.Key, bool) {
	i := first(l, k)
	if i < 0 {
		return l, false
	}
	return slices.Delete(slices.Clone(l), i, i+1), true
}

// P4.1: the first byte that differs tells, whatever is behind; no key is below itself.
func TestLessExamples(t *testing.T) {
	for _, c := range []struct {
		a, b api.Key
		want bool
	}{
		{key(0), key(1), true}, {key(1), key(0), false}, {key(7), key(7), false}, {key(), key(), false},
		{key(1, 9), key(2), true}, {key(2), key(1, 9), false}, {key(1), key(1, 0, 1), true}, {key(1, 0, 1), key(1), false},
		{api.Key{31: 1}, api.Key{30: 1}, true}, {api.Key{30: 1}, api.Key{31: 1}, false}, {api.Key{31: 1}, api.Key{31: 2}, true}, {api.Key{31: 2}, api.Key{31: 1}, false},
		{key(127), key(128), true}, {key(128), key(127), false}, {key(255), key(1), false}, {key(1), key(255), true},
	} {
		if got := keys.Less(c.a, c.b); got != c.want {
			t.Errorf("%x, %x: %t", c.a, c.b, got)
		}
	}
}

// P4.1: all pairs, in each place of a key.
func TestLess(t *testing.T) {
	l := append(edges(), drawn(rand.New(rand.NewSource(41)), 100)...)
	for i := range 32 {
		for _, x := range []byte{1, 128, 255} {
			var k api.Key
			k[i] = x
			l = append(l, k)
		}
	}
	for _, a := range l {
		for _, b := range l {
			if got := keys.Less(a, b); got != below(a, b) {
				t.Errorf("%x, %x: %t", a, b, got)
			}
		}
	}
}

// P4.1: rising, and each key as often as it is there.
func TestSort(t *testing.T) {
	for _, c := range [][2][]api.Key{
		{nil, nil}, {{}, {}}, {{key(3)}, {key(3)}},
		{{key(3), key(1), key(2), key(1)}, {key(1), key(1), key(2), key(3)}},
		{{key(9), key(9), key(9)}, {key(9), key(9), key(9)}},
		{{key(255), {31: 1}, key(128), key()}, {key(), {31: 1}, key(128), key(255)}},
	} {
		if got := keys.Sort(c[0]); !slices.Equal(got, c[1]) {
			t.Errorf("%x: %x", c[0], got)
		}
	}
	for _, l := range lists() {
		if got := keys.Sort(l); !slices.Equal(got, sorted(l)) {
			t.Errorf("%x: %x", l, got)
		}
	}
	e := edges()
	slices.Reverse(e)
	if got := keys.Sort(e); !slices.Equal(got, edges()) {
		t.Errorf("%x", got)
	}
}

// P4.2: no key twice, be it side by side, or far apart.
func TestDistinct(t *testing.T) {
	for _, c := range []struct {
		l    []api.Key
		want bool
	}{
		{nil, true}, {[]api.Key{}, true}, {[]api.Key{key()}, true}, {[]api.Key{key(), key()}, false}, {[]api.Key{key(), {31: 1}}, true},
		{[]api.Key{key(3), key(1), key(2), key(1)}, false}, {[]api.Key{key(3), key(1), key(2)}, true}, {[]api.Key{key(3), key(1), key(2), key(3)}, false},
		{edges(), true}, {append(edges(), edges()[10]), false},
	} {
		if got := keys.Distinct(c.l); got != c.want {
			t.Errorf("%x: %t", c.l, got)
		}
	}
	for _, l := range lists() {
		if got := keys.Distinct(l); got != (len(set(l)) == len(l)) {
			t.Errorf("%x: %t", l, got)
		}
	}
}

// P4.2: a key in both, wherever it stands; a key twice in one of them is none.
func TestMeet(t *testing.T) {
	a := []api.Key{key(3), key(1), key(2), key(1)}
	for _, c := range []struct {
		a, b []api.Key
		want bool
	}{
		{nil, nil, false}, {a, nil, false}, {nil, a, false}, {a, []api.Key{}, false}, {a, a, true},
		{a, []api.Key{key(9), key(2)}, true}, {a, []api.Key{key(9), key(3)}, true}, {a, []api.Key{key(1), key(9)}, true},
		{a, []api.Key{key(9), key(9), key(0), {31: 1}}, false}, {[]api.Key{key()}, []api.Key{key()}, true}, {[]api.Key{key()}, []api.Key{{31: 1}}, false},
	} {
		if keys.Meet(c.a, c.b) != c.want || keys.Meet(c.b, c.a) != c.want {
			t.Errorf("%x, %x: not %t", c.a, c.b, c.want)
		}
	}
}

// P4.2: all pairs of short lists, and some of long ones.
func TestMeetMany(t *testing.T) {
	l := lists()
	for i, a := range l {
		for j := i % 7; j < len(l); j += 7 {
			b := l[j]
			want := false
			for _, k := range a {
				want = want || first(b, k) >= 0
			}
			if keys.Meet(a, b) != want {
				t.Errorf("%x, %x: not %t", a, b, want)
			}
		}
	}
}

// P4.3: whether it is there, in sets and in other lists.
func TestHas(t *testing.T) {
	for _, l := range lists() {
		for _, k := range asked(l) {
			if got := keys.Has(l, k); got != (first(l, k) >= 0) {
				t.Errorf("%x, %x: %t", l, k, got)
			}
		}
	}
	if keys.Has(nil, key()) || keys.Has([]api.Key{}, key()) {
		t.Error("the key 0 is in a list of none")
	}
}

// P4.3: a key ahead of all, between, behind all; one that is there; and lists that do not rise.
func TestInsertExamples(t *testing.T) {
	s := []api.Key{key(1), key(3)}
	other := []api.Key{key(3), key(1), key(2), key(1)}
	for _, c := range []struct {
		l    []api.Key
		k    api.Key
		want []api.Key
		is   bool
	}{
		{nil, key(), []api.Key{key()}, true}, {[]api.Key{}, key(7), []api.Key{key(7)}, true},
		{s, key(), []api.Key{key(), key(1), key(3)}, true}, {s, key(2), []api.Key{key(1), key(2), key(3)}, true}, {s, key(9), []api.Key{key(1), key(3), key(9)}, true},
		{s, key(1), s, false}, {s, key(3), s, false},
		{other, key(2, 1), []api.Key{key(2, 1), key(3), key(1), key(2), key(1)}, true},
		{other, key(3, 1), []api.Key{key(3), key(1), key(2), key(1), key(3, 1)}, true},
		{other, key(1), other, false}, {other, key(2), other, false},
		{[]api.Key{key(1), key(5), key(2)}, key(3), []api.Key{key(1), key(3), key(5), key(2)}, true},
		{[]api.Key{key(1), key(1), key(4), key(4)}, key(2), []api.Key{key(1), key(1), key(2), key(4), key(4)}, true},
	} {
		if got, is := keys.Insert(c.l, c.k); !slices.Equal(got, c.want) || is != c.is {
			t.Errorf("%x, %x: %x, %t", c.l, c.k, got, is)
		}
	}
}

// P4.3: the first one goes, and no other; nothing goes of what is not there.
func TestRemoveExamples(t *testing.T) {
	s := []api.Key{key(1), key(2), key(3)}
	other := []api.Key{key(3), key(1), key(2), key(1)}
	for _, c := range []struct {
		l    []api.Key
		k    api.Key
		want []api.Key
		is   bool
	}{
		{nil, key(), nil, false}, {[]api.Key{}, key(), nil, false}, {[]api.Key{key()}, key(), nil, true},
		{s, key(1), []api.Key{key(2), key(3)}, true}, {s, key(2), []api.Key{key(1), key(3)}, true}, {s, key(3), []api.Key{key(1), key(2)}, true},
		{s, key(), s, false}, {s, key(2, 1), s, false}, {s, key(9), s, false},
		{other, key(1), []api.Key{key(3), key(2), key(1)}, true}, {other, key(3), []api.Key{key(1), key(2), key(1)}, true}, {other, key(9), other, false},
		{[]api.Key{key(4), key(4), key(4)}, key(4), []api.Key{key(4), key(4)}, true},
	} {
		if got, is := keys.Remove(c.l, c.k); !slices.Equal(got, c.want) || is != c.is {
			t.Errorf("%x, %x: %x, %t", c.l, c.k, got, is)
		}
	}
}

// P4.3: Insert and Remove, in sets and in other lists.
func TestInsertAndRemove(t *testing.T) {
	for _, l := range lists() {
		for _, k := range asked(l) {
			want, wantIs := inserted(l, k)
			if got, is := keys.Insert(l, k); !slices.Equal(got, want) || is != wantIs {
				t.Errorf("Insert of %x, %x: %x, %t", l, k, got, is)
			}
			want, wantIs = removed(l, k)
			if got, is := keys.Remove(l, k); !slices.Equal(got, want) || is != wantIs {
				t.Errorf("Remove of %x, %x: %x, %t", l, k, got, is)
			}
		}
	}
}

// P4.4: sets stay sets, whatever comes and goes, and have just what came and did not go.
func TestSetsStaySets(t *testing.T) {
	r := rand.New(rand.NewSource(44))
	var s []api.Key
	there := map[api.Key]int{}
	for _, k := range drawn(r, 3000) {
		var is bool
		_, was := there[k]
		if r.Intn(3) > 0 {
			s, is = keys.Insert(s, k)
			is = is != was
			there[k] = 1
		} else {
			s, is = keys.Remove(s, k)
			is = is == was
			delete(there, k)
		}
		if !is || !isSet(s) || len(s) != len(there) || !keys.Distinct(s) {
			t.Fatalf("%x: %x", k, s)
		}
	}
	for k := range there {
		if !keys.Has(s, k) {
			t.Errorf("%x is not there", k)
		}
	}
}

// P4.4: what was put in goes again, and a set is as it was; what went comes again.
func TestThereAndBack(t *testing.T) {
	for _, l := range lists() {
		s := set(l)
		for _, k := range asked(s) {
			more, is := keys.Insert(s, k)
			less, was := keys.Remove(more, k)
			if !isSet(more) || !was || is != slices.Equal(less, s) || keys.Has(less, k) || !keys.Has(more, k) {
				t.Errorf("%x, %x: %x, %x", s, k, more, less)
			}
			if again, _ := keys.Insert(less, k); !slices.Equal(again, more) {
				t.Errorf("%x, %x: %x again", s, k, again)
			}
		}
	}
}

// roomy is a list of n of these keys, with others behind its length, and all of that.
func roomy(l []api.Key, n int) (list, whole []api.Key) {
	whole = slices.Clone(l)
	return whole[:n], whole
}

// R3: what is handed in is not changed, what lies behind its length neither.
func TestNothingIsChanged(t *testing.T) {
	rising := []api.Key{key(1), key(2), key(3), key(4), key(90), key(91)}
	other := []api.Key{key(3), key(1), key(2), key(1), key(0), key(1)}
	for _, was := range [][]api.Key{rising, other} {
		for n := range len(was) + 1 {
			l, whole := roomy(was, n)
			for _, k := range append(edges(), was...) {
				keys.Sort(l)
				keys.Distinct(l)
				keys.Has(l, k)
				keys.Insert(l, k)
				keys.Remove(l, k)
				keys.Meet(l, []api.Key{k})
				keys.Meet([]api.Key{k}, l)
				if !slices.Equal(whole, was) {
					t.Fatalf("%x of %x, %x: %x", l, was, k, whole)
				}
			}
		}
	}
}

// R3: an answer is new memory, also where it is the same list: to write to it, or behind it, changes nothing that was handed in.
func TestAnswersAreNew(t *testing.T) {
	was := []api.Key{key(1), key(2), key(3), key(4), key(90), key(91)}
	scratch := func(l []api.Key) {
		l = l[:cap(l)]
		for i := range l {
			l[i] = key(77)
		}
	}
	for n := range len(was) + 1 {
		l, whole := roomy(was, n)
		for _, k := range []api.Key{key(), key(1), key(2, 1), key(4), key(99)} {
			in, _ := keys.Insert(l, k)
			out, _ := keys.Remove(l, k)
			for _, answer := range [][]api.Key{keys.Sort(l), in, out} {
				scratch(answer)
				if !slices.Equal(whole, was) {
					t.Fatalf("%d of %x, %x: %x", n, was, k, whole)
				}
			}
		}
	}
}
