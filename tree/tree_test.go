package tree_test

import (
	"crypto/sha256"
	"math"
	"math/bits"
	"math/rand"
	"slices"
	"testing"

	"thurible/api"
	"thurible/tree"
)

// pair is the hash, twice, of two keys side by side, by the library's own.
func pair(a, b api.Key) api.Key {
	once := sha256.Sum256(append(a[:], b[:]...))
	return sha256.Sum256(once[:])
}

// nothing is the root of a tree of nothing.
func nothing(height int) api.Key {
	var x api.Key
	for range height {
		x = pair(x, x)
	}
	return x
}

// rootOf is the root of notes at a height, as the document says it, of at most as many notes as have room there.
func rootOf(l []api.Key, height int) api.Key {
	if len(l) == 0 {
		return nothing(height)
	}
	if height == 0 {
		return l[0]
	}
	half := min(1<<(height-1), len(l))
	return pair(rootOf(l[:half], height-1), rootOf(l[half:], height-1))
}

// treeOf is the tree of notes, as the document says Of.
func treeOf(l []api.Key) tree.Tree {
	t := tree.Tree{Count: uint32(len(l))}
	for i := range 32 {
		if len(l)&(1<<i) != 0 {
			first := len(l) - len(l)%(1<<(i+1))
			t.Parts[i] = rootOf(l[first:first+1<<i], i)
		}
	}
	return t
}

// appended is Append, as the document says it, of a tree that has room.
func appended(t tree.Tree, k api.Key) tree.Tree {
	ones := bits.TrailingZeros32(^t.Count)
	for i := range ones {
		k = pair(t.Parts[i], k)
		t.Parts[i] = api.Key{}
	}
	t.Parts[ones] = k
	t.Count++
	return t
}

// climbed is Root, as the document says it.
func climbed(t tree.Tree) api.Key {
	var x, empty api.Key
	for i := range 32 {
		if t.Count/(1<<i)%2 == 1 {
			x = pair(t.Parts[i], x)
		} else {
			x = pair(x, empty)
		}
		empty = pair(empty, empty)
	}
	return x
}

// notes are n keys, each of them another one, and others for another seed.
func notes(seed, n int) []api.Key {
	l := make([]api.Key, n)
	for i := range l {
		l[i] = api.Key{0: byte(i), 1: byte(i >> 8), 15: 7, 31: byte(seed)}
	}
	return l
}

// lists are lists of each length up to one above a power of two, longer ones, and some with notes that are alike, or 0.
func lists() [][]api.Key {
	l := [][]api.Key{nil, {}, make([]api.Key, 1), make([]api.Key, 2), make([]api.Key, 7), make([]api.Key, 32)}
	for n := 1; n <= 65; n++ {
		l = append(l, notes(1, n))
	}
	for _, n := range []int{100, 127, 128, 129, 255, 256, 257, 300, 511, 512, 513, 1200} {
		l = append(l, notes(2, n))
	}
	// A note is what it is, if it looks like nothing, or like a part.
	l = append(l, []api.Key{{}, {1}, {}, {}, {2}, {}, {}}, slices.Repeat(notes(3, 1), 21), []api.Key{nothing(1), nothing(2), nothing(3)})
	return l
}

// counts are such whose carry ends at each place, and such beside them, up to the last one that has room.
func counts() []uint32 {
	var l []uint32
	for i := range 32 {
		l = append(l, 1<<i, 1<<i-1, 1<<i+1, ^uint32(1<<i), ^uint32(0)<<i<<1)
	}
	l = append(l, 0, math.MaxUint32-1, math.MaxUint32-2, 0x55555555, 0xaaaaaaaa, 0xdeadbeef)
	return slices.DeleteFunc(l, func(n uint32) bool { return n == math.MaxUint32 })
}

// anyTree is a tree of so many that may be none of notes: all its parts are there, also where Count says nothing of them.
func anyTree(r *rand.Rand, count uint32) tree.Tree {
	t := tree.Tree{Count: count}
	for i := range t.Parts {
		r.Read(t.Parts[i][:])
	}
	return t
}

// P7.1: height by height, from the key 0 on.
func TestEmpty(t *testing.T) {
	roots := tree.Empty()
	if len(roots) != 33 {
		t.Errorf("%d of them", len(roots))
	}
	for i, k := range roots {
		if k != nothing(i) {
			t.Errorf("height %d: %x, not %x", i, k, nothing(i))
		}
	}
	if roots[0] != (api.Key{}) {
		t.Errorf("height 0: %x", roots[0])
	}
}

// P7.3: Count, and each part, of all lengths.
func TestOf(t *testing.T) {
	for _, l := range lists() {
		if got := tree.Of(l); got != treeOf(l) {
			t.Errorf("%d notes: %v, not %v", len(l), got, treeOf(l))
		}
	}
	if tree.Of(nil) != (tree.Tree{}) {
		t.Error("of no notes")
	}
}

// P7.2 and P7.3: the parts of small trees, written out.
func TestOfSmall(t *testing.T) {
	l := notes(1, 7)
	low := pair(l[4], l[5])
	high := pair(pair(l[0], l[1]), pair(l[2], l[3]))
	for n, want := range map[int]tree.Tree{
		1: {Count: 1, Parts: [32]api.Key{l[0]}},
		2: {Count: 2, Parts: [32]api.Key{{}, pair(l[0], l[1])}},
		3: {Count: 3, Parts: [32]api.Key{l[2], pair(l[0], l[1])}},
		4: {Count: 4, Parts: [32]api.Key{{}, {}, high}},
		5: {Count: 5, Parts: [32]api.Key{l[4], {}, high}},
		6: {Count: 6, Parts: [32]api.Key{{}, low, high}},
		7: {Count: 7, Parts: [32]api.Key{l[6], low, high}},
	} {
		if got := tree.Of(l[:n]); got != want {
			t.Errorf("%d notes: %v, not %v", n, got, want)
		}
	}
}

// P7.4: note by note, from nothing on.
func TestAppend(t *testing.T) {
	for _, l := range lists() {
		var x tree.Tree
		for i, k := range l {
			want := appended(x, k)
			got, e := tree.Append(x, k)
			if got != want || e != api.OK {
				t.Fatalf("note %d of %d: %v, %d, not %v", i, len(l), got, e, want)
			}
			x = got
		}
	}
}

// P7.4: a carry may end at each bit; parts that are not on its way stay, and those of bits that are 0 count for nothing.
func TestAppendAnywhere(t *testing.T) {
	r := rand.New(rand.NewSource(1))
	for _, n := range counts() {
		k := api.Key{3: byte(n), 30: 9}
		for _, x := range []tree.Tree{anyTree(r, n), {Count: n}} {
			if got, e := tree.Append(x, k); got != appended(x, k) || e != api.OK {
				t.Errorf("%x: %v, %d, not %v", n, got, e, appended(x, k))
			}
		}
	}
	for range 300 {
		x := anyTree(r, r.Uint32()>>r.Intn(32)&^1)
		x.Count += uint32(r.Intn(2))
		if x.Count == math.MaxUint32 {
			continue
		}
		if got, e := tree.Append(x, x.Parts[5]); got != appended(x, x.Parts[5]) || e != api.OK {
			t.Errorf("%x: %v, %d", x.Count, got, e)
		}
	}
}

// P7.4: the last count has no room, the one ahead of it has.
func TestFull(t *testing.T) {
	r := rand.New(rand.NewSource(2))
	for _, x := range []tree.Tree{{Count: math.MaxUint32}, anyTree(r, math.MaxUint32)} {
		for _, k := range []api.Key{{}, {1}} {
			if got, e := tree.Append(x, k); got != (tree.Tree{}) || e != api.ErrFull {
				t.Errorf("%v, %d", got, e)
			}
		}
		for _, n := range []int{1, 2, 50} {
			if got, e := tree.All(x, notes(1, n)); got != (tree.Tree{}) || e != api.ErrFull {
				t.Errorf("%d notes: %v, %d", n, got, e)
			}
		}
		for _, l := range [][]api.Key{nil, {}} {
			if got, e := tree.All(x, l); got != x || e != api.OK {
				t.Errorf("no notes: %v, %d", got, e)
			}
		}
		x.Count--
		if got, e := tree.Append(x, api.Key{1}); got.Count != math.MaxUint32 || got != appended(x, api.Key{1}) || e != api.OK {
			t.Errorf("%v, %d", got, e)
		}
	}
}

// P7.4: as many as there is room for, and not one more: the tree is 0 then, even if some had room.
func TestAllToTheEnd(t *testing.T) {
	for room := range 6 {
		x := anyTree(rand.New(rand.NewSource(3)), math.MaxUint32-uint32(room))
		want := x
		for n := range 9 {
			l := notes(4, n)
			got, e := tree.All(x, l)
			if n > room {
				if got != (tree.Tree{}) || e != api.ErrFull {
					t.Errorf("room for %d, %d notes: %v, %d", room, n, got, e)
				}
				continue
			}
			if n > 0 {
				want = appended(want, l[n-1])
			}
			if got != want || e != api.OK {
				t.Errorf("room for %d, %d notes: %v, %d, not %v", room, n, got, e, want)
			}
		}
	}
}

// P7.4: all of a list, in order, behind what is there.
func TestAll(t *testing.T) {
	r := rand.New(rand.NewSource(4))
	for _, n := range counts() {
		if n > math.MaxUint32-7 {
			continue
		}
		x := anyTree(r, n)
		want := x
		for _, k := range notes(5, 7) {
			want = appended(want, k)
		}
		if got, e := tree.All(x, notes(5, 7)); got != want || e != api.OK {
			t.Errorf("%x: %v, %d, not %v", n, got, e, want)
		}
	}
}

// P7.5: of any tree, of which parts whose bit is 0 count for nothing.
func TestRootAnywhere(t *testing.T) {
	r := rand.New(rand.NewSource(5))
	for _, n := range append(counts(), math.MaxUint32) {
		for _, x := range []tree.Tree{anyTree(r, n), {Count: n}} {
			if got := tree.Root(x); got != climbed(x) {
				t.Errorf("%x: %x, not %x", n, got, climbed(x))
			}
		}
		x := anyTree(r, n)
		y := x
		for i := range y.Parts {
			if n>>i&1 == 0 {
				y.Parts[i] = api.Key{9}
			}
		}
		if tree.Root(x) != tree.Root(y) {
			t.Errorf("%x: a part counts whose bit is 0", n)
		}
	}
}

// P7.2 and P7.5: of a tree of notes their root at the height 32.
func TestRootOfNotes(t *testing.T) {
	for _, l := range lists() {
		if got := tree.Root(tree.Of(l)); got != rootOf(l, 32) {
			t.Errorf("%d notes: %x, not %x", len(l), got, rootOf(l, 32))
		}
	}
	if tree.Root(tree.Tree{}) != tree.Empty()[32] {
		t.Error("of nothing")
	}
}

// P7.6: at once, one by one, or a part of it first: one tree.
func TestOneTree(t *testing.T) {
	for _, l := range lists() {
		want := tree.Of(l)
		if got, e := tree.All(tree.Tree{}, l); got != want || e != api.OK {
			t.Errorf("%d notes: %v, %d, not %v", len(l), got, e, want)
		}
		for _, cut := range []int{0, 1, len(l) / 3, len(l) / 2, len(l) - 1, len(l)} {
			if cut < 0 || cut > len(l) {
				continue
			}
			if got, e := tree.All(tree.Of(l[:cut]), l[cut:]); got != want || e != api.OK {
				t.Errorf("%d notes, cut at %d: %v, %d", len(l), cut, got, e)
			}
		}
	}
}

// P7.6: other notes, another order, or another number of them: another root.
func TestRootTellsApart(t *testing.T) {
	var l [][]api.Key
	for n := range 34 {
		l = append(l, notes(1, n))
		for i := range n {
			other := notes(1, n)
			other[i][20] = 1
			l = append(l, other)
			if i > 0 {
				turned := notes(1, n)
				turned[i-1], turned[i] = turned[i], turned[i-1]
				l = append(l, turned)
			}
		}
	}
	seen := map[api.Key]int{}
	for i, x := range l {
		k := tree.Root(tree.Of(x))
		if j, is := seen[k]; is {
			t.Errorf("%x and %x have one root", x, l[j])
		}
		seen[k] = i
	}
}

// R3: what is handed in is not changed, what lies behind its length neither.
func TestNothingIsChanged(t *testing.T) {
	l := notes(1, 40)
	x := tree.Of(l[:11])
	was := x
	tree.Append(x, l[11])
	tree.All(x, l[11:22])
	tree.Root(x)
	for n := range l {
		tree.Of(l[:n])
	}
	if x != was || !slices.Equal(l, notes(1, 40)) {
		t.Errorf("%v, %x", x, l)
	}
}

// R5: what was told before changes no answer.
func TestAgain(t *testing.T) {
	for range 3 {
		roots := tree.Empty()
		clear(roots[:])
		l := notes(1, 13)
		x := tree.Of(l)
		clear(l)
		tree.Append(tree.Tree{Count: math.MaxUint32}, api.Key{})
		if tree.Empty()[32] != nothing(32) || x != treeOf(notes(1, 13)) || tree.Root(x) != rootOf(notes(1, 13), 32) {
			t.Error("another answer")
		}
	}
}
