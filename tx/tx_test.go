package tx_test

import (
	"crypto/sha256"
	"encoding/binary"
	"fmt"
	"math"
	"math/rand"
	"slices"
	"strings"
	"testing"

	"thurible/api"
	"thurible/tx"
)

// key is a key that begins by these bytes.
func key(l ...byte) (k api.Key) {
	copy(k[:], l)
	return k
}

// full is a key of 32 different bytes.
func full(first byte) (k api.Key) {
	for i := range k {
		k[i] = first + byte(i)
	}
	return k
}

// rich is a transaction that has some of everything, each of it another one.
func rich() api.Tx {
	return api.Tx{
		Expiry:  0x01020304,
		Ins:     []api.Point{{Tx: full(1), Index: 0xa1a2a3a4}, {Tx: full(40), Index: 7}},
		Outs:    []api.Out{{Value: 0x1112131415161718, Lock: full(80)}, {Value: -2, Lock: full(120)}, {Value: 0, Lock: full(20)}},
		Anchor:  full(160),
		Nulls:   []api.Key{full(200), full(210)},
		Notes:   []api.Key{full(60), full(61), full(62)},
		Balance: -3,
	}
}

// items is a transaction with so many Ins, Outs, Nulls and Notes.
func items(ins, outs, nulls, notes int) api.Tx {
	t := api.Tx{Expiry: 9, Balance: 5}
	for i := range ins {
		t.Ins = append(t.Ins, api.Point{Tx: full(byte(i)), Index: uint32(i)})
	}
	for i := range outs {
		t.Outs = append(t.Outs, api.Out{Value: int64(i), Lock: full(byte(50 + i))})
	}
	for i := range nulls {
		t.Anchor = full(3)
		t.Nulls = append(t.Nulls, full(byte(100+i)))
	}
	for i := range notes {
		t.Notes = append(t.Notes, full(byte(150+i)))
	}
	return t
}

// random is a transaction of anything that has bytes.
func random(r *rand.Rand) api.Tx {
	some := func() int { return [...]int{0, 1, 2, 3, r.Intn(41), 40}[r.Intn(6)] }
	t := items(some(), some(), some(), some())
	t.Expiry, t.Balance = r.Uint32(), int64(r.Uint64())>>r.Intn(64)
	for i := range t.Ins {
		r.Read(t.Ins[i].Tx[:])
		t.Ins[i].Index = r.Uint32()
	}
	for i := range t.Outs {
		r.Read(t.Outs[i].Lock[:])
		t.Outs[i].Value = int64(r.Uint64()) >> r.Intn(64)
	}
	if len(t.Nulls) > 0 {
		r.Read(t.Anchor[:])
	}
	for i := range t.Nulls {
		r.Read(t.Nulls[i][:])
	}
	for i := range t.Notes {
		r.Read(t.Notes[i][:])
	}
	return t
}

// transactions are some of all kinds, which all have bytes.
func transactions() []api.Tx {
	l := []api.Tx{
		{}, rich(), items(40, 40, 40, 40),
		{Expiry: 1}, {Expiry: math.MaxUint32}, {Balance: 1}, {Balance: -1}, {Balance: math.MaxInt64}, {Balance: math.MinInt64},
		{Outs: []api.Out{{Value: math.MaxInt64}, {Value: math.MinInt64}, {Value: -1}, {Value: api.Max + 1}}},
		{Ins: []api.Point{{Index: math.MaxUint32}}},
		// An anchor of 0, with nullifiers: it has its bytes, too.
		{Nulls: []api.Key{full(9)}}, {Nulls: make([]api.Key, 3)},
		// What is there twice is not looked at here.
		{Ins: make([]api.Point, 2), Notes: []api.Key{full(1), full(1)}, Nulls: []api.Key{full(1), full(1)}, Anchor: full(1)},
		{Ins: []api.Point{}, Outs: []api.Out{}, Nulls: []api.Key{}, Notes: []api.Key{}},
	}
	for n := range 41 {
		l = append(l, items(n, 0, 0, 0), items(0, n, 0, 0), items(0, 0, n, 0), items(0, 0, 0, n))
	}
	r := rand.New(rand.NewSource(5))
	for range 300 {
		l = append(l, random(r))
	}
	return l
}

// bytesOf is Encode, as the document says it, of at most 40 of each: their number has one byte.
func bytesOf(t api.Tx) string {
	b := binary.LittleEndian.AppendUint32(nil, t.Expiry)
	b = append(b, byte(len(t.Ins)))
	for _, p := range t.Ins {
		b = append(b, p.Tx[:]...)
		b = binary.LittleEndian.AppendUint32(b, p.Index)
	}
	b = append(b, byte(len(t.Outs)))
	for _, o := range t.Outs {
		b = binary.LittleEndian.AppendUint64(b, uint64(o.Value))
		b = append(b, o.Lock[:]...)
	}
	b = append(b, byte(len(t.Nulls)))
	if len(t.Nulls) > 0 {
		b = append(b, t.Anchor[:]...)
	}
	for _, k := range t.Nulls {
		b = append(b, k[:]...)
	}
	b = append(b, byte(len(t.Notes)))
	for _, k := range t.Notes {
		b = append(b, k[:]...)
	}
	return string(binary.LittleEndian.AppendUint64(b, uint64(t.Balance)))
}

// alike is whether two transactions, of at most 40 of each, are the same: the anchor is told apart from the bytes, that may have no place for it.
func alike(a, b api.Tx) bool {
	return a.Anchor == b.Anchor && bytesOf(a) == bytesOf(b)
}

// counts is what is wrong with the number of elements that s begins by, or how many they are, and where they begin.
func counts(s string) (n, size int, e api.Errno) {
	if s == "" {
		return 0, 0, api.ErrShort
	}
	width := map[byte]int{253: 2, 254: 4, 255: 8}[s[0]]
	if len(s) < 1+width {
		return 0, 0, api.ErrShort
	}
	if width == 0 && s[0] > 40 {
		return 0, 0, api.ErrMany
	}
	if width == 0 {
		return int(s[0]), 1, api.OK
	}
	whole := make([]byte, 8)
	copy(whole, s[1:1+width])
	if least := map[int]uint64{2: 253, 4: 1 << 16, 8: 1 << 32}[width]; binary.LittleEndian.Uint64(whole) < least {
		return 0, 0, api.ErrLong
	}
	return 0, 0, api.ErrMany
}

// wantError is the error of Read, as the document says it, or where the transaction ends.
func wantError(s string) (end int, e api.Errno) {
	at := 4
	if len(s) < at {
		return 0, api.ErrShort
	}
	for list, width := range []int{36, 40, 32, 32} {
		n, size, e := counts(s[at:])
		if e != api.OK {
			return 0, e
		}
		at += size + n*width
		if list == 2 && n > 0 {
			at += 32
		}
		if at > len(s) {
			return 0, api.ErrShort
		}
	}
	if at+8 > len(s) {
		return 0, api.ErrShort
	}
	return at + 8, api.OK
}

// readsAs fails, unless Read and Decode of s answer as they should, whatever s is.
func readsAs(t *testing.T, s string) {
	t.Helper()
	end, want := wantError(s)
	got, rest, e := tx.Read(s)
	whole, de := tx.Decode(s)
	if want != api.OK {
		if e != want || rest != "" || !empty(got) || de != want || !empty(whole) {
			t.Errorf("%x: Read %v, %x, %d, Decode %v, %d, not %d", s, got, rest, e, whole, de, want)
		}
		return
	}
	if e != api.OK || rest != s[end:] || bytesOf(got) != s[:end] || !anchored(got) {
		t.Errorf("%x: Read %v, %x, %d", s, got, rest, e)
	}
	if rest != "" && (de != api.ErrMore || !empty(whole)) || rest == "" && (de != api.OK || !alike(whole, got)) {
		t.Errorf("%x: Decode %v, %d", s, whole, de)
	}
}

// empty is whether t is nothing at all.
func empty(t api.Tx) bool {
	return alike(t, api.Tx{})
}

// anchored is whether t has an anchor of 0, or nullifiers.
func anchored(t api.Tx) bool {
	return len(t.Nulls) > 0 || t.Anchor == api.Key{}
}

// P5.1: what is written out, the chapter's example first.
func TestEncodeExamples(t *testing.T) {
	of := func(c string) string { return strings.Repeat(c, 32) }
	k := func(c string) api.Key { return api.Key([]byte(of(c))) }
	for _, c := range []struct {
		t    api.Tx
		want string
	}{
		{api.Tx{}, strings.Repeat("\x00", 16)},
		{api.Tx{Expiry: 0x01020304}, "\x04\x03\x02\x01" + strings.Repeat("\x00", 12)},
		{api.Tx{Balance: 0x0102030405060708}, strings.Repeat("\x00", 8) + "\x08\x07\x06\x05\x04\x03\x02\x01"},
		{api.Tx{Balance: -1}, strings.Repeat("\x00", 8) + strings.Repeat("\xff", 8)},
		{api.Tx{Balance: math.MinInt64}, strings.Repeat("\x00", 15) + "\x80"},
		{api.Tx{Ins: []api.Point{{Tx: k("a"), Index: 0x01020304}}}, "\x00\x00\x00\x00\x01" + of("a") + "\x04\x03\x02\x01" + strings.Repeat("\x00", 11)},
		{api.Tx{Outs: []api.Out{{Value: -2, Lock: k("b")}}}, "\x00\x00\x00\x00\x00\x01\xfe\xff\xff\xff\xff\xff\xff\xff" + of("b") + strings.Repeat("\x00", 10)},
		{api.Tx{Anchor: k("c"), Nulls: []api.Key{k("d"), k("e")}}, "\x00\x00\x00\x00\x00\x00\x02" + of("c") + of("d") + of("e") + strings.Repeat("\x00", 9)},
		{api.Tx{Nulls: []api.Key{k("d")}}, "\x00\x00\x00\x00\x00\x00\x01" + of("\x00") + of("d") + strings.Repeat("\x00", 9)},
		{api.Tx{Notes: []api.Key{k("f"), k("g")}}, "\x00\x00\x00\x00\x00\x00\x00\x02" + of("f") + of("g") + strings.Repeat("\x00", 8)},
	} {
		if got, e := tx.Encode(c.t); got != c.want || e != api.OK {
			t.Errorf("%v: %x, %d, not %x", c.t, got, e, c.want)
		}
	}
}

// P5.1: all kinds of transactions.
func TestEncode(t *testing.T) {
	for _, x := range transactions() {
		if got, e := tx.Encode(x); got != bytesOf(x) || e != api.OK {
			t.Errorf("%v: %x, %d, not %x", x, got, e, bytesOf(x))
		}
	}
}

// P5.1: 40 of each may be, 41 of any one may not, with an anchor that may not be, too, or without.
func TestEncodeMany(t *testing.T) {
	for _, n := range []int{41, 42, 100, 252, 253, 300} {
		for _, x := range []api.Tx{items(n, 0, 0, 0), items(0, n, 0, 0), items(0, 0, n, 0), items(0, 0, 0, n), items(n, 40, 40, 40), items(40, 40, 40, n), items(n, n, n, n)} {
			for _, anchor := range []api.Key{{}, full(1)} {
				x.Anchor = anchor
				if s, e := tx.Encode(x); s != "" || e != api.ErrMany {
					t.Errorf("%d: %x, %d", n, s, e)
				}
			}
		}
	}
	for _, x := range []api.Tx{items(40, 0, 0, 0), items(0, 40, 0, 0), items(0, 0, 40, 0), items(0, 0, 0, 40), items(40, 40, 40, 40)} {
		if s, e := tx.Encode(x); s == "" || e != api.OK {
			t.Errorf("%v: %x, %d", x, s, e)
		}
	}
}

// P5.1: an anchor without nullifiers may not be, whichever its byte, and whatever else is there.
func TestEncodeAnchor(t *testing.T) {
	for i := range 32 {
		for _, x := range []api.Tx{{}, items(2, 1, 0, 3), {Nulls: []api.Key{}}} {
			x.Anchor[i] = 1
			if s, e := tx.Encode(x); s != "" || e != api.ErrArg {
				t.Errorf("byte %d: %x, %d", i, s, e)
			}
			x.Nulls = []api.Key{{}}
			if s, e := tx.Encode(x); s != bytesOf(x) || e != api.OK {
				t.Errorf("byte %d, with a nullifier: %x, %d", i, s, e)
			}
		}
	}
}

// P5.2 and P5.4: what was encoded is read, with what is behind, and decoded, if nothing is.
func TestReadIsEncoded(t *testing.T) {
	for _, x := range transactions() {
		s, _ := tx.Encode(x)
		if got, e := tx.Decode(s); !alike(got, x) || e != api.OK {
			t.Errorf("%v: Decode %v, %d", x, got, e)
		}
		for _, tail := range []string{"", "\x00", "behind", s} {
			if got, rest, e := tx.Read(s + tail); !alike(got, x) || rest != tail || e != api.OK {
				t.Errorf("%v: Read %v, %x, %d", x, got, rest, e)
			}
			if got, e := tx.Decode(s + tail); tail != "" && (!empty(got) || e != api.ErrMore) {
				t.Errorf("%v and %x: Decode %v, %d", x, tail, got, e)
			}
		}
	}
}

// P5.2: bytes that end too early, at all places.
func TestReadShort(t *testing.T) {
	for _, x := range []api.Tx{{}, rich(), items(1, 0, 0, 0), items(0, 1, 0, 0), items(0, 0, 1, 0), items(0, 0, 0, 1), items(40, 40, 40, 40)} {
		s := bytesOf(x)
		for length := range len(s) {
			if got, rest, e := tx.Read(s[:length]); !empty(got) || rest != "" || e != api.ErrShort {
				t.Errorf("%d bytes of %d: Read %v, %x, %d", length, len(s), got, rest, e)
			}
			if got, e := tx.Decode(s[:length]); !empty(got) || e != api.ErrShort {
				t.Errorf("%d bytes of %d: Decode %v, %d", length, len(s), got, e)
			}
		}
	}
}

// heads are the bytes ahead of each list's number, with some elements in the lists ahead of it, or none.
func heads() [][]string {
	x := rich()
	ins := 4 + 1 + 2*36
	outs := ins + 1 + 3*40
	nulls := outs + 1 + 32 + 2*32
	s := bytesOf(x)
	return [][]string{
		{s[:4], "\x00\x00\x00\x00"},
		{s[:ins], "\x00\x00\x00\x00\x00"},
		{s[:outs], "\x00\x00\x00\x00\x00\x00"},
		{s[:nulls], "\x00\x00\x00\x00\x00\x00\x00"},
	}
}

// P5.2: each list's number: codec's error first, then ErrMany, ahead of all that is counted, even if no byte is left.
func TestReadCounts(t *testing.T) {
	for list, l := range heads() {
		for _, head := range l {
			for _, c := range []struct {
				number string
				e      api.Errno
			}{
				{"", api.ErrShort}, {"\xfd", api.ErrShort}, {"\xfe\xff\xff\xff", api.ErrShort}, {"\xff\xff\xff\xff\xff\xff\xff\xff", api.ErrShort},
				{"\x29", api.ErrMany}, {"\x2a", api.ErrMany}, {"\x80", api.ErrMany}, {"\xfc", api.ErrMany},
				{"\xfd\xfd\x00", api.ErrMany}, {"\xfd\x00\x01", api.ErrMany}, {"\xfd\x01\x01", api.ErrMany}, {"\xfe\x00\x00\x01\x00", api.ErrMany}, {"\xfe\x01\x00\x01\x00", api.ErrMany},
				{"\xff\x00\x00\x00\x00\x01\x00\x00\x00", api.ErrMany}, {"\xff\x01\x00\x00\x00\x01\x00\x00\x00", api.ErrMany},
				{"\xff\x00\x00\x00\x00\x00\x00\x00\x80", api.ErrMany}, {"\xff\xff\xff\xff\xff\xff\xff\xff\xff", api.ErrMany},
				{"\xfd\x00\x00", api.ErrLong}, {"\xfd\x05\x00", api.ErrLong}, {"\xfd\x29\x00", api.ErrLong}, {"\xfd\xfc\x00", api.ErrLong},
				{"\xfe\x29\x00\x00\x00", api.ErrLong}, {"\xfe\xff\xff\x00\x00", api.ErrLong}, {"\xff\x05\x00\x00\x00\x00\x00\x00\x00", api.ErrLong}, {"\xff\xff\xff\xff\xff\x00\x00\x00\x00", api.ErrLong},
				// So many may be, but none of them is there.
				{"\x01", api.ErrShort}, {"\x28", api.ErrShort},
			} {
				behind := []string{""}
				if c.e != api.ErrShort {
					behind = append(behind, "\xff\xff", strings.Repeat("\x00", 3000))
				}
				for _, b := range behind {
					s := head + c.number + b
					if got, rest, e := tx.Read(s); !empty(got) || rest != "" || e != c.e {
						t.Errorf("list %d, %x: Read %v, %x, %d, not %d", list, c.number, got, rest, e, c.e)
					}
					if got, e := tx.Decode(s); !empty(got) || e != c.e {
						t.Errorf("list %d, %x: Decode %v, %d, not %d", list, c.number, got, e, c.e)
					}
				}
			}
		}
	}
}

// P5.2: of several errors the one whose bytes stand first.
func TestReadFirstError(t *testing.T) {
	for list, l := range heads() {
		for _, first := range []struct {
			number string
			e      api.Errno
		}{{"\x29", api.ErrMany}, {"\xfd\x01\x00", api.ErrLong}} {
			for _, second := range []string{"\x29", "\xfd\x01\x00", "\xff"} {
				s := l[0] + first.number + second
				if _, _, e := tx.Read(s); e != first.e {
					t.Errorf("list %d: %d, not %d", list, e, first.e)
				}
			}
		}
	}
}

// P5.2: no nullifiers have no anchor: the bytes behind their number are the notes' number.
func TestReadAnchor(t *testing.T) {
	s := strings.Repeat("\x00", 7) + "\x01" + strings.Repeat("n", 32) + strings.Repeat("\x00", 8)
	got, e := tx.Decode(s)
	if e != api.OK || got.Anchor != (api.Key{}) || len(got.Nulls) != 0 || !slices.Equal(got.Notes, []api.Key{api.Key([]byte(strings.Repeat("n", 32)))}) {
		t.Errorf("%v, %d", got, e)
	}
}

// P5.2 and P5.4: any bytes are read as the document says it, and are those of what was read alone.
func TestReadAnything(t *testing.T) {
	r := rand.New(rand.NewSource(6))
	for range 60000 {
		b := make([]byte, r.Intn(200))
		for i := range b {
			// Zeros and ones come often, so that lists end and a good many texts are good.
			b[i] = [...]byte{0, 0, 0, 0, 0, 0, 0, 0, 0, 1, 253, byte(r.Intn(256))}[r.Intn(12)]
		}
		readsAs(t, string(b))
	}
	for _, x := range transactions() {
		s := []byte(bytesOf(x))
		for range 20 {
			b := slices.Clone(s)
			b[r.Intn(len(b))] = [...]byte{0, 1, 40, 41, 253, 255, byte(r.Intn(256))}[r.Intn(7)]
			readsAs(t, string(b))
			readsAs(t, string(b[:r.Intn(len(b)+1)]))
		}
	}
}

// P5.4: no two transactions that differ have the same bytes.
func TestBytesOfOne(t *testing.T) {
	of := map[string]api.Tx{}
	for _, x := range transactions() {
		s, _ := tx.Encode(x)
		if y, is := of[s]; is && !alike(x, y) {
			t.Errorf("%v and %v: %x", x, y, s)
		}
		of[s] = x
	}
	for _, y := range changed() {
		s, _ := tx.Encode(rich())
		if other, e := tx.Encode(y); e != api.OK || other == s {
			t.Errorf("%v: %x, %d", y, other, e)
		}
	}
}

// P5.3: the hash, twice, of the bytes, by the library's own.
func TestId(t *testing.T) {
	for _, x := range transactions() {
		once := sha256.Sum256([]byte(bytesOf(x)))
		if got, e := tx.Id(x); got != sha256.Sum256(once[:]) || e != api.OK {
			t.Errorf("%v: %x, %d", x, got, e)
		}
	}
}

// P5.3: what has no bytes has no id.
func TestIdErrors(t *testing.T) {
	for _, c := range []struct {
		t api.Tx
		e api.Errno
	}{
		{api.Tx{Anchor: full(1)}, api.ErrArg}, {items(41, 0, 0, 0), api.ErrMany}, {items(0, 41, 0, 0), api.ErrMany}, {items(0, 0, 41, 0), api.ErrMany}, {items(0, 0, 0, 41), api.ErrMany},
		{api.Tx{Anchor: full(1), Notes: make([]api.Key, 41)}, api.ErrMany},
	} {
		if k, e := tx.Id(c.t); k != (api.Key{}) || e != c.e {
			t.Errorf("%v: %x, %d, not %d", c.t, k, e, c.e)
		}
	}
}

// P5.3: just one of Ins, of Tx 0, whatever else there is.
func TestCoinbase(t *testing.T) {
	rest := rich()
	rest.Ins = []api.Point{{Index: 3}}
	long := items(0, 41, 41, 41)
	long.Ins = []api.Point{{}}
	for _, x := range []api.Tx{{Ins: []api.Point{{}}}, {Ins: []api.Point{{Index: math.MaxUint32}}}, {Ins: make([]api.Point, 1, 9)}, rest, long, {Ins: []api.Point{{}}, Anchor: full(1)}} {
		if !tx.Coinbase(x) {
			t.Errorf("%v is none", x)
		}
	}
	for _, x := range []api.Tx{{}, {Ins: []api.Point{}}, {Ins: make([]api.Point, 2)}, {Ins: make([]api.Point, 41)}, {Ins: []api.Point{{}, {Tx: full(1)}}}, {Ins: []api.Point{{Tx: full(1)}, {}}}, rich()} {
		if tx.Coinbase(x) {
			t.Errorf("%v is one", x)
		}
	}
	for i := range 32 {
		x := api.Tx{Ins: []api.Point{{}}}
		x.Ins[0].Tx[i] = 1
		if tx.Coinbase(x) {
			t.Errorf("%v is one", x)
		}
	}
}

// changed are rich transactions with one thing changed in each.
func changed() []api.Tx {
	var l []api.Tx
	change := func(f func(t *api.Tx)) {
		t := rich()
		f(&t)
		l = append(l, t)
	}
	change(func(t *api.Tx) { t.Expiry++ })
	change(func(t *api.Tx) { t.Balance++ })
	change(func(t *api.Tx) { t.Balance = -t.Balance })
	change(func(t *api.Tx) { t.Anchor[31]++ })
	change(func(t *api.Tx) { t.Anchor = api.Key{} })
	for i := range rich().Ins {
		change(func(t *api.Tx) { t.Ins[i].Tx[31]++ })
		change(func(t *api.Tx) { t.Ins[i].Index++ })
		change(func(t *api.Tx) { t.Ins = slices.Delete(t.Ins, i, i+1) })
	}
	for i := range rich().Outs {
		change(func(t *api.Tx) { t.Outs[i].Value++ })
		change(func(t *api.Tx) { t.Outs[i].Lock[0]++ })
		change(func(t *api.Tx) { t.Outs = slices.Delete(t.Outs, i, i+1) })
	}
	for i := range rich().Nulls {
		change(func(t *api.Tx) { t.Nulls[i][0]++ })
		change(func(t *api.Tx) { t.Nulls = slices.Delete(t.Nulls, i, i+1) })
	}
	for i := range rich().Notes {
		change(func(t *api.Tx) { t.Notes[i][31]++ })
		change(func(t *api.Tx) { t.Notes = slices.Delete(t.Notes, i, i+1) })
	}
	change(func(t *api.Tx) { slices.Reverse(t.Ins) })
	change(func(t *api.Tx) { slices.Reverse(t.Outs) })
	change(func(t *api.Tx) { slices.Reverse(t.Nulls) })
	change(func(t *api.Tx) { slices.Reverse(t.Notes) })
	change(func(t *api.Tx) { t.Nulls, t.Notes = t.Notes, t.Nulls })
	change(func(t *api.Tx) { t.Ins = nil })
	change(func(t *api.Tx) { t.Outs = nil })
	change(func(t *api.Tx) { t.Notes = nil })
	change(func(t *api.Tx) { t.Ins = append(t.Ins, api.Point{}) })
	change(func(t *api.Tx) { t.Outs = append(t.Outs, api.Out{}) })
	change(func(t *api.Tx) { t.Nulls = append(t.Nulls, api.Key{}) })
	change(func(t *api.Tx) { t.Notes = append(t.Notes, api.Key{}) })
	return l
}

// P5.3: all of them is the same, or one thing is another one.
func TestSame(t *testing.T) {
	if !tx.Same(rich(), rich()) {
		t.Error("rich")
	}
	for _, x := range changed() {
		if tx.Same(x, rich()) || tx.Same(rich(), x) || !tx.Same(x, x) {
			t.Errorf("%v", x)
		}
	}
	l := transactions()
	var bytes []string
	for _, x := range l {
		bytes = append(bytes, bytesOf(x))
	}
	for i, a := range l {
		for j, b := range l {
			if want := bytes[i] == bytes[j]; tx.Same(a, b) != want {
				t.Errorf("%v and %v: not %v", a, b, want)
			}
		}
	}
}

// P5.3: lists without elements are the same; also what has no bytes has its answer.
func TestSameEdges(t *testing.T) {
	none := api.Tx{Ins: []api.Point{}, Outs: []api.Out{}, Nulls: []api.Key{}, Notes: make([]api.Key, 0, 5)}
	if !tx.Same(none, api.Tx{}) || !tx.Same(api.Tx{}, none) {
		t.Error("none")
	}
	if tx.Same(api.Tx{Anchor: full(1)}, api.Tx{}) || !tx.Same(api.Tx{Anchor: full(1)}, api.Tx{Anchor: full(1)}) {
		t.Error("an anchor without nullifiers")
	}
	long, other := items(0, 0, 0, 300), items(0, 0, 0, 300)
	if !tx.Same(long, other) {
		t.Error("long")
	}
	other.Notes[299][0]++
	if tx.Same(long, other) {
		t.Error("long, with another end")
	}
}

// R3: what is handed in is not changed, what lies behind its length neither.
func TestNothingIsChanged(t *testing.T) {
	whole := rich()
	part := whole
	part.Ins, part.Outs, part.Nulls, part.Notes = whole.Ins[:1], whole.Outs[:1], whole.Nulls[:1], whole.Notes[:1]
	tx.Encode(part)
	tx.Id(part)
	tx.Coinbase(part)
	tx.Same(part, whole)
	tx.Same(whole, part)
	if !alike(whole, rich()) {
		t.Errorf("%v", whole)
	}
}

// R3: an answer is new memory: to write to one of its lists, or behind it, changes nothing else.
func TestAnswersAreNew(t *testing.T) {
	s := bytesOf(rich())
	a, _, _ := tx.Read(s)
	b, _ := tx.Decode(s)
	for _, l := range [][]api.Key{a.Nulls, a.Notes} {
		was := fmt.Sprint(a.Nulls, a.Notes)
		_ = append(l, full(99), full(98), full(97))
		if fmt.Sprint(a.Nulls, a.Notes) != was {
			t.Error("its lists share memory")
		}
	}
	clear(a.Ins)
	clear(a.Outs)
	clear(a.Nulls)
	if !slices.Equal(a.Notes, rich().Notes) {
		t.Error("its lists share memory")
	}
	clear(a.Notes)
	if c, e := tx.Decode(s); !alike(b, rich()) || !alike(c, rich()) || e != api.OK {
		t.Errorf("%v, %v, %d", b, c, e)
	}
}

// R5: what was told before changes no answer.
func TestAgain(t *testing.T) {
	for range 3 {
		for _, s := range []string{"", "\x00\x00\x00\x00\x29", "\x00\x00\x00\x00\xfd\x05\x00", bytesOf(rich()), bytesOf(rich()) + "z"} {
			readsAs(t, s)
		}
	}
}

// P5.2: no bytes make Read or Decode panic, or answer otherwise than the document says.
func FuzzRead(f *testing.F) {
	for _, x := range []api.Tx{{}, rich(), items(1, 1, 1, 1)} {
		f.Add(bytesOf(x))
	}
	f.Fuzz(func(t *testing.T, s string) { readsAs(t, s) })
}
