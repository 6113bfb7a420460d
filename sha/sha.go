// Package sha is layer 1: see shared/doc/01-sha.md.
package sha

import (
	"math/bits"
	"strings"

	"thurible/api"
)

// blockSize is how many bytes are put to the hash at once.
const blockSize = 64

// cubeRoots is K: of the first 64 primes' cube roots the first 32 bits behind the point.
var cubeRoots = [64]uint32{
	0x428a2f98, 0x71374491, 0xb5c0fbcf, 0xe9b5dba5, 0x3956c25b, 0x59f111f1, 0x923f82a4, 0xab1c5ed5,
	0xd807aa98, 0x12835b01, 0x243185be, 0x550c7dc3, 0x72be5d74, 0x80deb1fe, 0x9bdc06a7, 0xc19bf174,
	0xe49b69c1, 0xefbe4786, 0x0fc19dc6, 0x240ca1cc, 0x2de92c6f, 0x4a7484aa, 0x5cb0a9dc, 0x76f988da,
	0x983e5152, 0xa831c66d, 0xb00327c8, 0xbf597fc7, 0xc6e00bf3, 0xd5a79147, 0x06ca6351, 0x14292967,
	0x27b70a85, 0x2e1b2138, 0x4d2c6dfc, 0x53380d13, 0x650a7354, 0x766a0abb, 0x81c2c92e, 0x92722c85,
	0xa2bfe8a1, 0xa81a664b, 0xc24b8b70, 0xc76c51a3, 0xd192e819, 0xd6990624, 0xf40e3585, 0x106aa070,
	0x19a4c116, 0x1e376c08, 0x2748774c, 0x34b0bcb5, 0x391c0cb3, 0x4ed8aa4a, 0x5b9cca4f, 0x682e6ff3,
	0x748f82ee, 0x78a5636f, 0x84c87814, 0x8cc70208, 0x90befffa, 0xa4506ceb, 0xbef9a3f7, 0xc67178f2,
}

// squareRoots is H: of the first eight primes' square roots the first 32 bits behind the point.
var squareRoots = [8]uint32{
	0x6a09e667, 0xbb67ae85, 0x3c6ef372, 0xa54ff53a, 0x510e527f, 0x9b05688c, 0x1f83d9ab, 0x5be0cd19,
}

// Pad is s, filled up to whole blocks by a mark, zeros and its length in bits.
func Pad(s string) string {
	// 119 is 55 and 64: the mark takes a byte of the 56, and nothing goes below 0.
	zeros := (119 - len(s)%blockSize) % blockSize
	var b strings.Builder
	b.Grow(len(s) + 1 + zeros + 8)
	b.WriteString(s)
	b.WriteByte(128)
	for range zeros {
		b.WriteByte(0)
	}
	length := 8 * uint64(len(s))
	for i := range 8 {
		b.WriteByte(byte(length >> (56 - 8*i)))
	}
	return b.String()
}

// Words are the numbers that each four bytes of s are.
func Words(s string) []uint32 {
	l := make([]uint32, len(s)/4)
	for i := range l {
		l[i] = word(s, i)
	}
	return l
}

// Sum is the hash of s.
func Sum(s string) api.Key {
	hash := squareRoots
	p := Pad(s)
	for i := range len(p) / blockSize {
		hash = compress(hash, p[i*blockSize:(i+1)*blockSize])
	}
	return key(hash)
}

// Double is the hash of the hash of s.
func Double(s string) api.Key {
	k := Sum(s)
	return Sum(string(k[:]))
}

// Pair is the hash, twice, of two keys side by side.
func Pair(a, b api.Key) api.Key {
	return Double(string(a[:]) + string(b[:]))
}

// word is the i-th number of s (of four bytes each), which has as many.
func word(s string, i int) uint32 {
	s = s[4*i : 4*i+4]
	return uint32(s[0])<<24 | uint32(s[1])<<16 | uint32(s[2])<<8 | uint32(s[3])
}

// compress is the hash with one block put to it.
func compress(hash [8]uint32, block string) [8]uint32 {
	var w [16]uint32
	for i := range w {
		w[i] = word(block, i)
	}
	a, b, c, d := hash[0], hash[1], hash[2], hash[3]
	e, f, g, h := hash[4], hash[5], hash[6], hash[7]
	round := func(i int) {
		// No word is asked for again once sixteen have come behind it: a new one takes its place.
		if i >= 16 {
			w[i&15] += early(w[(i-15)&15]) + w[(i-7)&15] + late(w[(i-2)&15])
		}
		t := h + (rot(e, 6) ^ rot(e, 11) ^ rot(e, 25)) + (e&f ^ ^e&g) + cubeRoots[i] + w[i&15]
		u := (rot(a, 2) ^ rot(a, 13) ^ rot(a, 22)) + (a&b ^ a&c ^ b&c)
		a, b, c, d, e, f, g, h = t+u, a, b, c, d+t, e, f, g
	}
	for i := range 64 {
		round(i)
	}
	for i, x := range [8]uint32{a, b, c, d, e, f, g, h} {
		hash[i] += x
	}
	return hash
}

// early is what the word 15 back gives a new one of the schedule.
func early(x uint32) uint32 {
	return rot(x, 7) ^ rot(x, 18) ^ x>>3
}

// late is what the word 2 back gives it.
func late(y uint32) uint32 {
	return rot(y, 17) ^ rot(y, 19) ^ y>>10
}

// rot is x turned to the right by n bits.
func rot(x uint32, n int) uint32 {
	return bits.RotateLeft32(x, -n)
}

// key is the bytes of the hash.
func key(hash [8]uint32) api.Key {
	var k api.Key
	for i, x := range hash {
		for j := range 4 {
			k[4*i+j] = byte(x >> (24 - 8*j))
		}
	}
	return k
}
