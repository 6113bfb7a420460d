package expiry_test

import (
	"math"
	"math/rand"
	"testing"

	"thurible/api"
	"thurible/expiry"
)

const top = math.MaxUint32

// edges is numbers about all those at which an answer may change.
func edges() (l []uint32) {
	for _, middle := range []int64{0, 1 << 8, 1 << 16, 499999999, 1 << 31, top} {
		for d := int64(-6); d <= 6; d++ {
			if n := middle + d; 0 <= n && n <= top {
				l = append(l, uint32(n))
			}
		}
	}
	return l
}

// pairs calls f with all pairs of small numbers and of edges, with near ones by chance, and with any by chance.
func pairs(f func(end, at uint32)) {
	for end := range uint32(40) {
		for at := range uint32(40) {
			f(end, at)
		}
	}
	for _, end := range edges() {
		for _, at := range edges() {
			f(end, at)
		}
	}
	r := rand.New(rand.NewSource(12))
	for range 20000 {
		end := r.Uint32()
		f(end, r.Uint32())
		// This one goes round sometimes, which is as good a pair.
		f(end, end+uint32(r.Intn(12))-6)
	}
}

// P12.1: the highest expiry that may be, and all others.
func TestCheck(t *testing.T) {
	r := rand.New(rand.NewSource(1))
	l := edges()
	for range 5000 {
		l = append(l, r.Uint32(), uint32(r.Intn(500000000)))
	}
	for _, n := range l {
		want := api.OK
		if n > 499999999 {
			want = api.ErrExpiry
		}
		if e := expiry.Check(n); e != want {
			t.Fatal(n, e, want)
		}
	}
	for _, x := range []struct {
		n uint32
		e api.Errno
	}{{0, 0}, {1, 0}, {499999998, 0}, {499999999, 0}, {500000000, 120}, {500000001, 120}, {1 << 31, 120}, {top, 120}} {
		if e := expiry.Check(x.n); e != x.e {
			t.Error(x.n, e)
		}
	}
}

// P12.1: it is expired above its expiry alone, and never if that is 0; the chapter's example, and edges.
func TestExpired(t *testing.T) {
	for _, x := range []struct {
		end, at uint32
		is      bool
	}{
		{5, 6, true}, {5, 5, false}, {5, 4, false}, {5, 0, false},
		{0, 0, false}, {0, 1, false}, {0, top, false},
		{1, 0, false}, {1, 1, false}, {1, 2, true}, {1, top, true},
		{top - 1, top - 1, false}, {top - 1, top, true}, {top, top, false}, {top, 0, false},
		{1 << 31, 1<<31 - 1, false}, {1 << 31, 1 << 31, false}, {1 << 31, 1<<31 + 1, true},
		{500000000, 500000000, false}, {500000000, 500000001, true},
	} {
		if is := expiry.Expired(x.end, x.at); is != x.is {
			t.Error(x.end, x.at, is)
		}
	}
	pairs(func(end, at uint32) {
		want := end != 0 && int64(at) > int64(end)
		if is := expiry.Expired(end, at); is != want {
			t.Fatal(end, at, is)
		}
	})
}

// P12.2: next and 3 are held against expiry, and don't go round.
func TestSoon(t *testing.T) {
	for _, x := range []struct {
		end, next uint32
		is        bool
	}{
		{9, 5, false}, {9, 6, false}, {9, 7, true}, {9, 8, true}, {9, 9, true}, {9, 10, true}, {9, 11, true},
		{0, 0, false}, {0, 1, false}, {0, top, false}, {0, top - 2, false},
		{1, 0, true}, {2, 0, true}, {3, 0, false}, {3, 1, true}, {4, 0, false},
		{1, top, true}, {2, top - 1, true}, {3, top - 2, true},
		{top, top - 3, false}, {top, top - 2, true}, {top, top - 1, true}, {top, top, true}, {top, 0, false},
		{1 << 31, 1<<31 - 3, false}, {1 << 31, 1<<31 - 2, true},
	} {
		if is := expiry.Soon(x.end, x.next); is != x.is {
			t.Error(x.end, x.next, is)
		}
	}
	pairs(func(end, next uint32) {
		want := end != 0 && int64(next)+3 > int64(end)
		if is := expiry.Soon(end, next); is != want {
			t.Fatal(end, next, is)
		}
	})
}

// P12.2: how many blocks are left, as many as the answer can tell at the most; R2: beside false it is 0.
func TestLeft(t *testing.T) {
	for _, x := range []struct {
		end, next, n uint32
		is           bool
	}{
		{9, 0, 10, true}, {9, 6, 4, true}, {9, 7, 3, true}, {9, 8, 2, true}, {9, 9, 1, true}, {9, 10, 0, true}, {9, 11, 0, true}, {9, top, 0, true},
		{0, 0, 0, false}, {0, 1, 0, false}, {0, top, 0, false},
		{1, 0, 2, true}, {1, 1, 1, true}, {1, 2, 0, true}, {1, top, 0, true},
		{top, 0, top, true}, {top, 1, top, true}, {top, 2, top - 1, true}, {top, top - 1, 2, true}, {top, top, 1, true},
		{top - 1, 0, top, true}, {top - 1, 1, top - 1, true}, {top - 1, top, 0, true}, {top - 2, 0, top - 1, true},
		{1 << 31, 0, 1<<31 + 1, true}, {1 << 31, 1 << 31, 1, true},
		{500000000, 0, 500000001, true},
	} {
		if n, is := expiry.Left(x.end, x.next); n != x.n || is != x.is {
			t.Error(x.end, x.next, n, is)
		}
	}
	capped := 0
	pairs(func(end, next uint32) {
		want := int64(0)
		if end != 0 && next <= end {
			want = int64(end) - int64(next) + 1
		}
		if want > top {
			want, capped = top, capped+1
		}
		if n, is := expiry.Left(end, next); int64(n) != want || is != (end != 0) {
			t.Fatal(end, next, n, is)
		}
	})
	if capped == 0 {
		t.Error("no pair has more than the answer can tell")
	}
}

// P12.1, P12.2: the blocks that are left are just those from next on at whose heights it is not expired, counted one by one.
func TestLeftCounts(t *testing.T) {
	for end := uint32(1); end < 30; end++ {
		for next := range uint32(40) {
			count := uint32(0)
			for h := next; h < 80; h++ {
				if !expiry.Expired(end, h) {
					count++
				}
			}
			if n, is := expiry.Left(end, next); n != count || !is {
				t.Fatal(end, next, n, is, count)
			}
		}
	}
}

// P12.3: what is expired is so at each height above, too.
func TestEver(t *testing.T) {
	r := rand.New(rand.NewSource(3))
	expired := 0
	pairs(func(end, at uint32) {
		if !expiry.Expired(end, at) {
			return
		}
		expired++
		for _, h := range []uint32{at, at + min(1, top-at), at + (top-at)/2, at + uint32(r.Int63n(int64(top-at)+1)), top} {
			if !expiry.Expired(end, h) || !expiry.Soon(end, h) {
				t.Fatal(end, at, h)
			}
			if n, is := expiry.Left(end, h); n != 0 || !is {
				t.Fatal(end, h, n, is)
			}
		}
	})
	if expired == 0 {
		t.Error("nothing is expired")
	}
}

// P12.3: what expires soon is left for three blocks at the most, and what doesn't for more, if it expires at all.
func TestSoonIsLeft(t *testing.T) {
	soon, later := 0, 0
	pairs(func(end, next uint32) {
		n, is := expiry.Left(end, next)
		if expiry.Soon(end, next) {
			soon++
			if n > 3 || !is {
				t.Fatal(end, next, n, is)
			}
		} else if end != 0 {
			later++
			if n <= 3 || !is {
				t.Fatal(end, next, n, is)
			}
		}
	})
	if soon == 0 || later == 0 {
		t.Error(soon, later)
	}
}

// R5: what is asked again is answered so again.
func TestAgain(t *testing.T) {
	type answers struct {
		e             api.Errno
		expired, soon bool
		left          uint32
		is            bool
	}
	ask := func(end, at uint32) (a answers) {
		a.e, a.expired, a.soon = expiry.Check(end), expiry.Expired(end, at), expiry.Soon(end, at)
		a.left, a.is = expiry.Left(end, at)
		return a
	}
	of := map[[2]uint32]answers{}
	pairs(func(end, at uint32) { of[[2]uint32{end, at}] = ask(end, at) })
	for p, a := range of {
		if b := ask(p[0], p[1]); a != b {
			t.Fatal(p, a, b)
		}
	}
}
