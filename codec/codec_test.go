package codec_test

import (
	"encoding/binary"
	"math"
	"math/rand"
	"strings"
	"testing"

	"thurible/api"
	"thurible/codec"
)

// numbers are the edges of all widths, and of all sizes of Compact, with those beside them, and some between.
func numbers() []uint64 {
	l := []uint64{0, 1, 2, 127, 128, 251, 252, 253, 254, 255, 256, 0x0102030405060708, 0xf1f2f3f4f5f6f7f8, math.MaxUint64 - 1, math.MaxUint64}
	for bit := range 64 {
		n := uint64(1) << bit
		l = append(l, n-1, n, n+1)
	}
	r := rand.New(rand.NewSource(3))
	for range 2000 {
		// Shifted, so that numbers of all sizes come.
		l = append(l, r.Uint64()>>r.Intn(64))
	}
	return l
}

// tails are what may stand behind bytes that are read.
func tails() []string {
	return []string{"", "\x00", "z", "\xff\xff", "\xfd\x01", strings.Repeat("behind", 20)}
}

// lowest are the lowest width bytes of n, the lowest one first.
func lowest(n uint64, width int) string {
	return string(binary.LittleEndian.AppendUint64(nil, n)[:width])
}

// compact is Compact, as the document says it.
func compact(n uint64) string {
	switch {
	case n < 253:
		return string([]byte{byte(n)})
	case n <= 65535:
		return "\xfd" + lowest(n, 2)
	case n <= 4294967295:
		return "\xfe" + lowest(n, 4)
	}
	return "\xff" + lowest(n, 8)
}

// wantRead is Read, as the document says it.
func wantRead(s string) (uint64, string, api.Errno) {
	if s == "" {
		return 0, "", api.ErrShort
	}
	width := map[byte]int{253: 2, 254: 4, 255: 8}[s[0]]
	if width == 0 {
		return uint64(s[0]), s[1:], api.OK
	}
	if len(s) < 1+width {
		return 0, "", api.ErrShort
	}
	whole := make([]byte, 8)
	copy(whole, s[1:1+width])
	n := binary.LittleEndian.Uint64(whole)
	if len(compact(n)) < 1+width {
		return 0, "", api.ErrLong
	}
	return n, s[1+width:], api.OK
}

// same fails, unless a call answers a number, what is behind and an error as it should.
func same(t *testing.T, what string, n uint64, rest string, e api.Errno, wantN uint64, wantRest string, wantE api.Errno) {
	t.Helper()
	if n != wantN || rest != wantRest || e != wantE {
		t.Errorf("%s: %d, %x, %d, not %d, %x, %d", what, n, rest, e, wantN, wantRest, wantE)
	}
}

// wrongWidths are those that no number may have.
func wrongWidths() []int {
	return []int{0, -1, -2, -8, 9, 10, 16, 64, 256, 257, 1<<32 + 1, math.MaxInt, math.MinInt, math.MinInt + 1}
}

// P3.1: what is written out.
func TestPutExamples(t *testing.T) {
	for _, c := range []struct {
		n     uint64
		width int
		want  string
	}{
		{0, 1, "\x00"}, {0, 8, "\x00\x00\x00\x00\x00\x00\x00\x00"},
		{5, 1, "\x05"}, {5, 3, "\x05\x00\x00"},
		{0x010203, 1, "\x03"}, {0x010203, 2, "\x03\x02"}, {0x010203, 3, "\x03\x02\x01"}, {0x010203, 4, "\x03\x02\x01\x00"},
		{0x0102030405060708, 8, "\x08\x07\x06\x05\x04\x03\x02\x01"}, {0x0102030405060708, 7, "\x08\x07\x06\x05\x04\x03\x02"},
		{math.MaxUint64, 8, "\xff\xff\xff\xff\xff\xff\xff\xff"}, {1 << 63, 8, "\x00\x00\x00\x00\x00\x00\x00\x80"},
		{256, 1, "\x00"}, {1 << 32, 4, "\x00\x00\x00\x00"},
	} {
		if got := codec.Put(c.n, c.width); got != c.want {
			t.Errorf("%x of width %d: %x, not %x", c.n, c.width, got, c.want)
		}
	}
}

// P3.1: all widths that may be have so many bytes, and the others none.
func TestPut(t *testing.T) {
	for _, n := range numbers() {
		for width := 1; width <= 8; width++ {
			if got := codec.Put(n, width); got != lowest(n, width) {
				t.Errorf("%x of width %d: %x, not %x", n, width, got, lowest(n, width))
			}
		}
	}
	for _, width := range wrongWidths() {
		for _, n := range []uint64{0, 5, math.MaxUint64} {
			if got := codec.Put(n, width); got != "" {
				t.Errorf("%x of width %d: %x", n, width, got)
			}
		}
	}
}

// P3.1: what is written out, read.
func TestGetExamples(t *testing.T) {
	for _, c := range []struct {
		s     string
		width int
		n     uint64
		rest  string
		e     api.Errno
	}{
		{"\x03\x02z", 2, 0x0203, "z", api.OK}, {"\x03\x02z", 1, 3, "\x02z", api.OK}, {"\x03\x02\x01", 3, 0x010203, "", api.OK},
		{"\x00\x00", 2, 0, "", api.OK}, {"\x01\x00\x00", 2, 1, "\x00", api.OK},
		{"\xff\xff\xff\xff\xff\xff\xff\xff", 8, math.MaxUint64, "", api.OK},
		{"\x00\x00\x00\x00\x00\x00\x00\x80rest", 8, 1 << 63, "rest", api.OK},
		{"\xff\xff\xff\xff\xff\xff\xff\xff", 7, 1<<56 - 1, "\xff", api.OK},
		{"", 1, 0, "", api.ErrShort}, {"a", 2, 0, "", api.ErrShort}, {"abcdefg", 8, 0, "", api.ErrShort}, {"", 8, 0, "", api.ErrShort},
		{"abc", 0, 0, "", api.ErrArg}, {"abc", 9, 0, "", api.ErrArg}, {"abc", -1, 0, "", api.ErrArg}, {"abcdefghijkl", 9, 0, "", api.ErrArg},
	} {
		n, rest, e := codec.Get(c.s, c.width)
		same(t, "Get", n, rest, e, c.n, c.rest, c.e)
	}
}

// P3.1: all lengths at all widths: too short a text errs, a longer one has some left.
func TestGetLengths(t *testing.T) {
	s := lowest(0xf1f2f3f4f5f6f7f8, 8) + "behind"
	for length := range len(s) + 1 {
		for width := 1; width <= 8; width++ {
			n, rest, e := codec.Get(s[:length], width)
			if length < width {
				same(t, "Get", n, rest, e, 0, "", api.ErrShort)
				continue
			}
			want := uint64(0xf1f2f3f4f5f6f7f8) << (64 - 8*width) >> (64 - 8*width)
			same(t, "Get", n, rest, e, want, s[width:length], api.OK)
		}
	}
}

// P3.1: a width that may not be is told ahead of a text that is too short.
func TestGetWrongWidths(t *testing.T) {
	for _, width := range wrongWidths() {
		for _, s := range []string{"", "a", "abcdefgh", strings.Repeat("x", 300)} {
			n, rest, e := codec.Get(s, width)
			same(t, "Get", n, rest, e, 0, "", api.ErrArg)
		}
	}
}

// P3.2: the edges, written out, the chapter's example among them.
func TestCompactExamples(t *testing.T) {
	for n, want := range map[uint64]string{
		0: "\x00", 1: "\x01", 252: "\xfc",
		253: "\xfd\xfd\x00", 254: "\xfd\xfe\x00", 255: "\xfd\xff\x00", 256: "\xfd\x00\x01", 65534: "\xfd\xfe\xff", 65535: "\xfd\xff\xff",
		65536: "\xfe\x00\x00\x01\x00", 0x01020304: "\xfe\x04\x03\x02\x01", 1<<32 - 1: "\xfe\xff\xff\xff\xff",
		1 << 32: "\xff\x00\x00\x00\x00\x01\x00\x00\x00", 0x0102030405060708: "\xff\x08\x07\x06\x05\x04\x03\x02\x01", math.MaxUint64: "\xff\xff\xff\xff\xff\xff\xff\xff\xff",
	} {
		if got := codec.Compact(n); got != want {
			t.Errorf("%d: %x, not %x", n, got, want)
		}
	}
}

// P3.2: all numbers of up to 17 bits, and edges of all others.
func TestCompact(t *testing.T) {
	for n := range uint64(1 << 17) {
		if got := codec.Compact(n); got != compact(n) {
			t.Errorf("%d: %x, not %x", n, got, compact(n))
		}
	}
	for _, n := range numbers() {
		if got := codec.Compact(n); got != compact(n) {
			t.Errorf("%d: %x, not %x", n, got, compact(n))
		}
	}
}

// P3.3: what is written out.
func TestReadExamples(t *testing.T) {
	for _, c := range []struct {
		s    string
		n    uint64
		rest string
		e    api.Errno
	}{
		{"\x00", 0, "", api.OK}, {"\x00\x00", 0, "\x00", api.OK}, {"\xfcab", 252, "ab", api.OK},
		{"\xfd\xfd\x00", 253, "", api.OK}, {"\xfd\xff\xff\xff", 65535, "\xff", api.OK},
		{"\xfe\x00\x00\x01\x00ab", 65536, "ab", api.OK}, {"\xfe\xff\xff\xff\xff", 1<<32 - 1, "", api.OK},
		{"\xff\x00\x00\x00\x00\x01\x00\x00\x00z", 1 << 32, "z", api.OK}, {"\xff\xff\xff\xff\xff\xff\xff\xff\xff", math.MaxUint64, "", api.OK},
		// Too short: nothing, a mark alone, and one byte less than it says.
		{"", 0, "", api.ErrShort},
		{"\xfd", 0, "", api.ErrShort}, {"\xfe", 0, "", api.ErrShort}, {"\xff", 0, "", api.ErrShort},
		{"\xfd\x00", 0, "", api.ErrShort}, {"\xfe\x00\x00\x00", 0, "", api.ErrShort}, {"\xff\x00\x00\x00\x00\x00\x00\x00", 0, "", api.ErrShort},
		{"\xfd\xff", 0, "", api.ErrShort}, {"\xfe\xff\xff\xff", 0, "", api.ErrShort}, {"\xff\xff\xff\xff\xff\xff\xff\xff", 0, "", api.ErrShort},
		// Too long: the greatest one of what is shorter, and 0.
		{"\xfd\xfc\x00", 0, "", api.ErrLong}, {"\xfd\x00\x00", 0, "", api.ErrLong},
		{"\xfe\xff\xff\x00\x00", 0, "", api.ErrLong}, {"\xfe\xfc\x00\x00\x00", 0, "", api.ErrLong}, {"\xfe\x00\x00\x00\x00z", 0, "", api.ErrLong},
		{"\xff\xff\xff\xff\xff\x00\x00\x00\x00", 0, "", api.ErrLong}, {"\xff\xff\xff\x00\x00\x00\x00\x00\x00", 0, "", api.ErrLong},
		{"\xff\xfc\x00\x00\x00\x00\x00\x00\x00", 0, "", api.ErrLong}, {"\xff\x00\x00\x00\x00\x00\x00\x00\x00ab", 0, "", api.ErrLong},
	} {
		n, rest, e := codec.Read(c.s)
		same(t, "Read", n, rest, e, c.n, c.rest, c.e)
	}
}

// P3.3: all texts of up to two bytes, and all numbers of two bytes behind the mark.
func TestReadShortTexts(t *testing.T) {
	try := func(b ...byte) {
		n, rest, e := codec.Read(string(b))
		wantN, wantRest, wantE := wantRead(string(b))
		same(t, "Read", n, rest, e, wantN, wantRest, wantE)
	}
	try()
	for a := range 256 {
		try(byte(a))
		for b := range 256 {
			try(byte(a), byte(b))
			try(253, byte(a), byte(b))
			try(253, byte(a), byte(b), 7)
		}
	}
}

// P3.3: each number behind each mark: whole, with what is behind, and at all lengths at which it ends too early.
func TestReadAnyWidth(t *testing.T) {
	for _, n := range numbers() {
		for mark, width := range map[string]int{"\xfd": 2, "\xfe": 4, "\xff": 8} {
			s := mark + lowest(n, width) + "z"
			for length := range len(s) + 1 {
				m, rest, e := codec.Read(s[:length])
				wantN, wantRest, wantE := wantRead(s[:length])
				same(t, "Read", m, rest, e, wantN, wantRest, wantE)
			}
		}
	}
}

// P3.4: what is shorter than a key errs, and what is longer has some left.
func TestKey(t *testing.T) {
	s := ""
	for i := range 40 {
		s += string([]byte{byte(200 + 3*i)})
	}
	for length := range len(s) + 1 {
		k, rest, e := codec.Key(s[:length])
		if length < 32 {
			if k != (api.Key{}) || rest != "" || e != api.ErrShort {
				t.Errorf("length %d: %x, %x, %d", length, k, rest, e)
			}
			continue
		}
		if string(k[:]) != s[:32] || rest != s[32:length] || e != api.OK {
			t.Errorf("length %d: %x, %x, %d", length, k, rest, e)
		}
	}
}

// P3.4: a key's bytes, in their order.
func TestBytes(t *testing.T) {
	if got := codec.Bytes(api.Key{}); got != strings.Repeat("\x00", 32) {
		t.Errorf("%x", got)
	}
	for i := range 32 {
		var k api.Key
		k[i] = 255
		if got := codec.Bytes(k); got != strings.Repeat("\x00", i)+"\xff"+strings.Repeat("\x00", 31-i) {
			t.Errorf("place %d: %x", i, got)
		}
	}
}

// P3.5: what was put is read, with what is behind.
func TestPutIsRead(t *testing.T) {
	for _, n := range numbers() {
		for _, tail := range tails() {
			for width := 1; width <= 8; width++ {
				m, rest, e := codec.Get(codec.Put(n, width)+tail, width)
				same(t, "Get", m, rest, e, n<<(64-8*width)>>(64-8*width), tail, api.OK)
			}
			m, rest, e := codec.Read(codec.Compact(n) + tail)
			same(t, "Read", m, rest, e, n, tail, api.OK)
		}
	}
	for _, tail := range tails() {
		for i := range 32 {
			want := api.Key{0: 9}
			want[i] = byte(i + 1)
			if k, rest, e := codec.Key(codec.Bytes(want) + tail); k != want || rest != tail || e != api.OK {
				t.Errorf("%x: %x, %x, %d", want, k, rest, e)
			}
		}
	}
}

// P3.5: what is read has no other Compact than the bytes that it was read of, whatever they are.
func TestOneCompact(t *testing.T) {
	r := rand.New(rand.NewSource(5))
	for range 100000 {
		b := make([]byte, r.Intn(12))
		for i := range b {
			// Marks and zeros come often, so that many numbers are long, or too long.
			b[i] = [...]byte{0, 253, 254, 255, byte(r.Intn(256))}[r.Intn(5)]
		}
		n, rest, e := codec.Read(string(b))
		wantN, wantRest, wantE := wantRead(string(b))
		same(t, "Read", n, rest, e, wantN, wantRest, wantE)
		if e == api.OK && codec.Compact(n)+rest != string(b) {
			t.Errorf("%x: %d has another Compact, %x", b, n, codec.Compact(n))
		}
	}
}

// R5: what was told before changes no answer.
func TestAgain(t *testing.T) {
	for range 3 {
		n, rest, e := codec.Read("\xfd\x00\x00")
		same(t, "Read", n, rest, e, 0, "", api.ErrLong)
		n, rest, e = codec.Read("\xfd\xfd\x00z")
		same(t, "Read", n, rest, e, 253, "z", api.OK)
	}
}
