package sha

import (
	"math/big"
	"testing"
)

// primes are the first n.
func primes(n int) []int64 {
	var l []int64
	for p := int64(2); len(l) < n; p++ {
		if big.NewInt(p).ProbablyPrime(0) {
			l = append(l, p)
		}
	}
	return l
}

// behindPoint is the first 32 bits behind the point of the root of n: that is the greatest x
// whose power is at most n times 2^32 to it, without the bits ahead of the point.
func behindPoint(n, power int64) uint32 {
	whole := new(big.Int).Lsh(big.NewInt(n), uint(32*power))
	x := new(big.Int)
	for i := 40; i >= 0; i-- {
		x.SetBit(x, i, 1)
		if new(big.Int).Exp(x, big.NewInt(power), nil).Cmp(whole) > 0 {
			x.SetBit(x, i, 0)
		}
	}
	return uint32(x.Uint64())
}

// P1.2: K is told by the first 64 primes' cube roots.
func TestCubeRoots(t *testing.T) {
	for i, p := range primes(64) {
		if want := behindPoint(p, 3); cubeRoots[i] != want {
			t.Errorf("%d: %08x, not %08x", p, cubeRoots[i], want)
		}
	}
	if cubeRoots[0] != 0x428A2F98 {
		t.Errorf("K begins by %08X", cubeRoots[0])
	}
}

// P1.2: H is told by the first eight primes' square roots.
func TestSquareRoots(t *testing.T) {
	for i, p := range primes(8) {
		if want := behindPoint(p, 2); squareRoots[i] != want {
			t.Errorf("%d: %08x, not %08x", p, squareRoots[i], want)
		}
	}
	if squareRoots[0] != 0x6A09E667 {
		t.Errorf("H begins by %08X", squareRoots[0])
	}
}

// P1.3: rot turns; what goes out on the right comes in on the left.
func TestRot(t *testing.T) {
	for _, c := range []struct {
		x    uint32
		n    int
		want uint32
	}{{1, 1, 1 << 31}, {0x12345678, 8, 0x78123456}, {0x80000000, 31, 1}, {0xdeadbeef, 32, 0xdeadbeef}, {0, 7, 0}} {
		if got := rot(c.x, c.n); got != c.want {
			t.Errorf("%08x by %d: %08x, not %08x", c.x, c.n, got, c.want)
		}
	}
}
