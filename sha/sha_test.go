package sha_test

import (
	"crypto/sha256"
	"encoding/binary"
	"encoding/hex"
	"slices"
	"strings"
	"testing"

	"thurible/api"
	"thurible/sha"
)

// text has n bytes, of which no two in a row are alike.
func text(n int) string {
	b := make([]byte, n)
	for i := range b {
		b[i] = byte(7*i + i>>8 + n)
	}
	return string(b)
}

// lengths are those around which padding takes another block, and many more.
func lengths() []int {
	var l []int
	for n := range 400 {
		l = append(l, n)
	}
	return append(l, 4095, 4096, 8191, 8192, 65536, 100000)
}

func numbers(b []byte) []uint32 {
	var l []uint32
	for len(b) >= 4 {
		l = append(l, binary.BigEndian.Uint32(b))
		b = b[4:]
	}
	return l
}

// P1.1: s, a mark, as few zeros as may be, and the length in bits, the highest byte first.
func TestPad(t *testing.T) {
	for _, n := range lengths() {
		s := text(n)
		b := append([]byte(s), 128)
		for len(b)%64 != 56 {
			b = append(b, 0)
		}
		b = binary.BigEndian.AppendUint64(b, 8*uint64(n))
		if got := sha.Pad(s); got != string(b) {
			t.Errorf("length %d: %x", n, got)
		}
	}
}

// P1.1: the lengths at which a block more begins, and those beside them.
func TestPadLength(t *testing.T) {
	for n, want := range map[int]int{0: 64, 54: 64, 55: 64, 56: 128, 57: 128, 63: 128, 64: 128, 65: 128, 118: 128, 119: 128, 120: 192, 127: 192, 128: 192} {
		if got := len(sha.Pad(text(n))); got != want {
			t.Errorf("length %d: %d, not %d", n, got, want)
		}
	}
}

// P1.1: the length in bits takes more than one, and more than two bytes.
func TestPadBits(t *testing.T) {
	for n, want := range map[int]string{0: "0000000000000000", 31: "00000000000000f8", 32: "0000000000000100", 8191: "000000000000fff8", 8192: "0000000000010000", 1 << 21: "0000000001000000"} {
		p := sha.Pad(strings.Repeat("x", n))
		if got := hex.EncodeToString([]byte(p[len(p)-8:])); got != want {
			t.Errorf("length %d: %s, not %s", n, got, want)
		}
	}
}

// P1.1: each four bytes, the highest one first; what is left behind is none.
func TestWords(t *testing.T) {
	for s, want := range map[string][]uint32{
		"":                                 nil,
		"\xff":                             nil,
		"\xff\xff\xff":                     nil,
		"\x01\x02\x03\x04":                 {0x01020304},
		"\x01\x02\x03\x04\xff":             {0x01020304},
		"\xff\x00\x00\x01\x80\x00\x00":     {0xff000001},
		"\x00\x00\x00\x00\xff\xff\xff\xff": {0, 0xffffffff},
	} {
		if got := sha.Words(s); !slices.Equal(got, want) {
			t.Errorf("%x: %x, not %x", s, got, want)
		}
	}
	for _, n := range lengths() {
		s := text(n)
		if got := sha.Words(s); !slices.Equal(got, numbers([]byte(s))) {
			t.Errorf("length %d: %x", n, got)
		}
	}
}

// R3: an answer is new memory.
func TestWordsAreNew(t *testing.T) {
	s := text(64)
	a := sha.Words(s)
	clear(a)
	if !slices.Equal(sha.Words(s), numbers([]byte(s))) {
		t.Error("a list that was changed is told again")
	}
}

// P1.3: the chapter's examples, and others that are told as SHA-256's.
func TestSumExamples(t *testing.T) {
	for s, want := range map[string]string{
		"":    "e3b0c44298fc1c149afbf4c8996fb92427ae41e4649b934ca495991b7852b855",
		"abc": "ba7816bf8f01cfea414140de5dae2223b00361a396177a9cb410ff61f20015ad",
		"abcdbcdecdefdefgefghfghighijhijkijkljklmklmnlmnomnopnopq": "248d6a61d20638b8e5c026930c3e6039a33ce45964ff2167f6ecedd419db06c1",
		"The quick brown fox jumps over the lazy dog":              "d7a8fbb307d7809469ca9abcb0082e4f8d5651e46d3cdb762d02d0bf37c9e592",
		strings.Repeat("a", 1000000):                               "cdc76e5c9914fb9281a1c7e284d73e67f1809a48a497200e046d39ccc7112cd0",
		"abcdefghbcdefghicdefghijdefghijkefghijklfghijklmghijklmnhijklmnoijklmnopjklmnopqklmnopqrlmnopqrsmnopqrstnopqrstu": "cf5b16a778af8380036ce59e7b0492370b249b11e8f07a51afac45037afee9d1",
	} {
		k := sha.Sum(s)
		if got := hex.EncodeToString(k[:]); got != want {
			t.Errorf("%.60q: %s, not %s", s, got, want)
		}
	}
}

// P1.2, P1.3: texts of all lengths, up to many blocks, as the library hashes them.
func TestSum(t *testing.T) {
	for _, n := range lengths() {
		s := text(n)
		if got := sha.Sum(s); got != sha256.Sum256([]byte(s)) {
			t.Errorf("length %d: %x", n, got)
		}
	}
}

// P1.3: each bit of a text counts, in each place of a block.
func TestSumBits(t *testing.T) {
	for i := range 8 * 70 {
		b := make([]byte, 70)
		b[i/8] = 1 << (i % 8)
		if got := sha.Sum(string(b)); got != sha256.Sum256(b) {
			t.Errorf("bit %d: %x", i, got)
		}
	}
}

// R5: what is told hangs on the arguments alone.
func TestSumAgain(t *testing.T) {
	first := sha.Sum("abc")
	sha.Sum(text(1000))
	if sha.Sum("abc") != first {
		t.Error("another hash of the same text")
	}
}

// P1.4: Double hashes the hash's bytes.
func TestDouble(t *testing.T) {
	k := sha.Double("hello")
	if got := hex.EncodeToString(k[:]); got != "9595c9df90075148eb06860365df33584b75bff782a510c6cd4883a419833d50" {
		t.Error(got)
	}
	for _, n := range lengths() {
		s := text(n)
		once := sha256.Sum256([]byte(s))
		if got := sha.Double(s); got != sha256.Sum256(once[:]) {
			t.Errorf("length %d: %x", n, got)
		}
	}
}

// P1.4: Pair hashes both keys' bytes, in their order, twice.
func TestPair(t *testing.T) {
	var none api.Key
	one := api.Key{0: 1}
	last := api.Key{31: 255}
	all := api.Key([]byte(text(32)))
	for _, p := range [][2]api.Key{{none, none}, {one, none}, {none, one}, {last, one}, {one, last}, {all, all}, {all, last}} {
		once := sha256.Sum256(append(p[0][:], p[1][:]...))
		if got := sha.Pair(p[0], p[1]); got != sha256.Sum256(once[:]) {
			t.Errorf("%x: %x", p, got)
		}
	}
	if sha.Pair(one, last) == sha.Pair(last, one) {
		t.Error("the same the other way round")
	}
}

// P1.5: whole blocks.
func TestPadIsWhole(t *testing.T) {
	for _, n := range lengths() {
		if got := len(sha.Pad(text(n))); got%64 != 0 || got < n+9 || got > n+72 {
			t.Errorf("length %d: %d", n, got)
		}
	}
}

// P1.5: another text has another Pad, even if it looks like one that has begun to be padded.
func TestPadTellsApart(t *testing.T) {
	seen := map[string]string{}
	try := func(s string) {
		p := sha.Pad(s)
		if was, ok := seen[p]; ok && was != s {
			t.Errorf("%x and %x have one Pad", was, s)
		}
		seen[p] = s
	}
	for n := range 130 {
		try(strings.Repeat("\x00", n))
		try(strings.Repeat("x", n))
		whole := sha.Pad(strings.Repeat("x", n))
		for m := n; m <= len(whole); m++ {
			try(whole[:m])
		}
	}
}
