package block_test

import (
	"crypto/sha256"
	"encoding/binary"
	"math"
	"math/rand"
	"slices"
	"strings"
	"testing"

	"thurible/api"
	"thurible/block"
)

// full is a key of 32 different bytes.
func full(first byte) (k api.Key) {
	for i := range k {
		k[i] = first + byte(i)
	}
	return k
}

// items is a transaction with so many Ins, Outs, Nulls and Notes, each of them another one, and others for another seed.
func items(seed, ins, outs, nulls, notes int) api.Tx {
	t := api.Tx{Expiry: uint32(seed), Balance: int64(-seed)}
	for i := range ins {
		t.Ins = append(t.Ins, api.Point{Tx: full(byte(seed + i + 1)), Index: uint32(i)})
	}
	for i := range outs {
		t.Outs = append(t.Outs, api.Out{Value: int64(i), Lock: full(byte(seed + 50 + i))})
	}
	for i := range nulls {
		t.Anchor = full(byte(seed + 3))
		t.Nulls = append(t.Nulls, full(byte(seed+100+i)))
	}
	for i := range notes {
		t.Notes = append(t.Notes, full(byte(seed+150+i)))
	}
	return t
}

// coinbase is a transaction that spends nothing that was there.
func coinbase() api.Tx {
	return api.Tx{Expiry: 3, Ins: []api.Point{{Index: 5}}, Outs: []api.Out{{Value: 9, Lock: full(7)}}}
}

// of is a block of these transactions.
func of(txs ...api.Tx) api.Block {
	return api.Block{Prev: full(10), Root: full(70), Nonce: 0x01020304, Txs: txs}
}

// rich is a block that has some of everything.
func rich() api.Block {
	return of(coinbase(), items(1, 2, 3, 2, 3), items(2, 1, 0, 0, 0), api.Tx{}, items(3, 0, 1, 0, 2), items(4, 0, 0, 1, 0))
}

// many is a block of n transactions, each of them another one.
func many(n int) api.Block {
	b := of()
	for i := range n {
		b.Txs = append(b.Txs, items(i, i%3, i%2, i%4, i%5))
	}
	return b
}

// random is a block of anything that has bytes.
func random(r *rand.Rand) api.Block {
	b := api.Block{Nonce: r.Uint32()}
	r.Read(b.Prev[:])
	r.Read(b.Root[:])
	for range 1 + r.Intn(6) {
		some := func() int { return [...]int{0, 0, 1, 2, 5}[r.Intn(5)] }
		t := items(r.Intn(256), some(), some(), some(), some())
		t.Expiry, t.Balance = r.Uint32(), int64(r.Uint64())>>r.Intn(64)
		for i := range t.Ins {
			t.Ins[i].Index = r.Uint32() >> r.Intn(32)
			if r.Intn(3) == 0 {
				t.Ins[i].Tx = api.Key{}
			}
		}
		b.Txs = append(b.Txs, t)
	}
	return b
}

// blocks are some of all kinds, which all have bytes.
func blocks() []api.Block {
	l := []api.Block{
		rich(), {Txs: make([]api.Tx, 1)}, {Txs: make([]api.Tx, 30)},
		{Prev: full(1), Txs: make([]api.Tx, 1)}, {Root: full(1), Txs: make([]api.Tx, 1)}, {Nonce: 1, Txs: make([]api.Tx, 1)}, {Nonce: math.MaxUint32, Txs: make([]api.Tx, 1)},
		// What a block may not be is not looked at here: coinbases anywhere, or none, one transaction twice, and any size.
		of(coinbase(), coinbase()), of(items(1, 1, 1, 1, 1), coinbase()), of(items(1, 40, 40, 40, 40)),
		{Txs: slices.Repeat([]api.Tx{items(1, 40, 40, 40, 40)}, 30)},
	}
	for n := 1; n <= 30; n++ {
		l = append(l, many(n))
	}
	r := rand.New(rand.NewSource(7))
	for range 300 {
		l = append(l, random(r))
	}
	return l
}

// bytesOfTx is a transaction as the document says it, of at most 40 of each: their number has one byte.
func bytesOfTx(b []byte, t api.Tx) []byte {
	b = binary.LittleEndian.AppendUint32(b, t.Expiry)
	b = append(b, byte(len(t.Ins)))
	for _, p := range t.Ins {
		b = append(b, p.Tx[:]...)
		b = binary.LittleEndian.AppendUint32(b, p.Index)
	}
	b = append(b, byte(len(t.Outs)))
	for _, o := range t.Outs {
		b = binary.LittleEndian.AppendUint64(b, uint64(o.Value))
		b = append(b, o.Lock[:]...)
	}
	b = append(b, byte(len(t.Nulls)))
	if len(t.Nulls) > 0 {
		b = append(b, t.Anchor[:]...)
	}
	for _, k := range t.Nulls {
		b = append(b, k[:]...)
	}
	b = append(b, byte(len(t.Notes)))
	for _, k := range t.Notes {
		b = append(b, k[:]...)
	}
	return binary.LittleEndian.AppendUint64(b, uint64(t.Balance))
}

// bytesOf is Encode, as the document says it, of a block that has bytes.
func bytesOf(b api.Block) string {
	l := append(slices.Clone(b.Prev[:]), b.Root[:]...)
	l = binary.LittleEndian.AppendUint32(l, b.Nonce)
	l = append(l, byte(len(b.Txs)))
	for _, t := range b.Txs {
		l = bytesOfTx(l, t)
	}
	return string(l)
}

// alike is whether two blocks are the same: the anchors are told apart from the bytes, that may have no place for them.
func alike(a, b api.Block) bool {
	return bytesOf(a) == bytesOf(b) && slices.EqualFunc(a.Txs, b.Txs, func(x, y api.Tx) bool { return x.Anchor == y.Anchor })
}

// empty is whether b is nothing at all.
func empty(b api.Block) bool {
	return alike(b, api.Block{})
}

// counts is what is wrong with the number that s begins by, of which there may be up to limit, or how many they are, and how many bytes the number has.
func counts(s string, limit byte) (n, size int, e api.Errno) {
	if s == "" {
		return 0, 0, api.ErrShort
	}
	width := map[byte]int{253: 2, 254: 4, 255: 8}[s[0]]
	if len(s) < 1+width {
		return 0, 0, api.ErrShort
	}
	if width == 0 && s[0] > limit {
		return 0, 0, api.ErrMany
	}
	if width == 0 {
		return int(s[0]), 1, api.OK
	}
	whole := make([]byte, 8)
	copy(whole, s[1:1+width])
	if least := map[int]uint64{2: 253, 4: 1 << 16, 8: 1 << 32}[width]; binary.LittleEndian.Uint64(whole) < least {
		return 0, 0, api.ErrLong
	}
	return 0, 0, api.ErrMany
}

// wantTx is the error of the transaction that s begins by, or how many bytes it has.
func wantTx(s string) (end int, e api.Errno) {
	at := 4
	if len(s) < at {
		return 0, api.ErrShort
	}
	for list, width := range []int{36, 40, 32, 32} {
		n, size, e := counts(s[at:], 40)
		if e != api.OK {
			return 0, e
		}
		at += size + n*width
		if list == 2 && n > 0 {
			at += 32
		}
		if at > len(s) {
			return 0, api.ErrShort
		}
	}
	if at+8 > len(s) {
		return 0, api.ErrShort
	}
	return at + 8, api.OK
}

// wantError is the error of Decode, as the document says it.
func wantError(s string) api.Errno {
	if len(s) < 68 {
		return api.ErrShort
	}
	n, size, e := counts(s[68:], 30)
	if e != api.OK {
		return e
	}
	if n == 0 {
		return api.ErrEmpty
	}
	s = s[68+size:]
	for range n {
		end, e := wantTx(s)
		if e != api.OK {
			return e
		}
		s = s[end:]
	}
	if s != "" {
		return api.ErrMore
	}
	return api.OK
}

// decodesAs fails, unless Decode of s answers as it should, whatever s is.
func decodesAs(t *testing.T, s string) {
	t.Helper()
	got, e := block.Decode(s)
	if want := wantError(s); e != want {
		t.Errorf("%x: %d, not %d", s, e, want)
	}
	if e != api.OK && !empty(got) {
		t.Errorf("%x: %v beside %d", s, got, e)
	}
	if e == api.OK && (bytesOf(got) != s || !anchored(got)) {
		t.Errorf("%x: %v", s, got)
	}
}

// anchored is whether all that have no nullifiers have an anchor of 0.
func anchored(b api.Block) bool {
	return !slices.ContainsFunc(b.Txs, func(t api.Tx) bool { return len(t.Nulls) == 0 && t.Anchor != api.Key{} })
}

// P6.1: what is written out.
func TestEncodeExamples(t *testing.T) {
	text := func(c string) string { return strings.Repeat(c, 32) }
	k := func(c string) api.Key { return api.Key([]byte(text(c))) }
	zero := text("\x00") + text("\x00")
	none := strings.Repeat("\x00", 16)
	for _, c := range []struct {
		b    api.Block
		want string
	}{
		{api.Block{Txs: []api.Tx{{}}}, zero + "\x00\x00\x00\x00\x01" + none},
		{api.Block{Prev: k("p"), Root: k("r"), Nonce: 0x01020304, Txs: []api.Tx{{}}}, text("p") + text("r") + "\x04\x03\x02\x01\x01" + none},
		{api.Block{Nonce: math.MaxUint32, Txs: []api.Tx{{Expiry: 5}, {Expiry: 6}}}, zero + "\xff\xff\xff\xff\x02" + "\x05" + none[1:] + "\x06" + none[1:]},
		{api.Block{Txs: []api.Tx{{}, {Notes: []api.Key{k("n")}}, {}}}, zero + "\x00\x00\x00\x00\x03" + none + none[:7] + "\x01" + text("n") + none[:8] + none},
		{api.Block{Txs: make([]api.Tx, 30)}, zero + "\x00\x00\x00\x00\x1e" + strings.Repeat(none, 30)},
	} {
		if got, e := block.Encode(c.b); got != c.want || e != api.OK {
			t.Errorf("%v: %x, %d, not %x", c.b, got, e, c.want)
		}
	}
}

// P6.1: all kinds of blocks.
func TestEncode(t *testing.T) {
	for _, b := range blocks() {
		if got, e := block.Encode(b); got != bytesOf(b) || e != api.OK {
			t.Errorf("%v: %x, %d, not %x", b, got, e, bytesOf(b))
		}
	}
}

// faulty are blocks that have no bytes, and the error that each of them has.
func faulty() map[api.Errno][]api.Block {
	anchored := api.Tx{Anchor: full(1)}
	long := items(1, 0, 0, 0, 41)
	both := items(1, 41, 0, 0, 0)
	both.Anchor = full(1)
	return map[api.Errno][]api.Block{
		api.ErrEmpty: {{}, of(), {Txs: []api.Tx{}}, {Prev: full(1), Txs: make([]api.Tx, 0, 3)}},
		api.ErrMany: {
			many(31), many(32), many(252), many(253), many(300), {Txs: make([]api.Tx, 31)},
			// Too many, whatever they are: none of them is looked at.
			of(append(many(30).Txs, anchored)...), of(append([]api.Tx{anchored}, many(30).Txs...)...), of(append([]api.Tx{long}, many(30).Txs...)...),
			// Of those that have no bytes the first one tells.
			of(long), of(both), of(items(1, 41, 0, 0, 0)), of(items(1, 0, 41, 0, 0)), of(items(1, 0, 0, 41, 0)),
			of(long, anchored), of(coinbase(), both, anchored), of(append(many(29).Txs, long)...),
		},
		api.ErrArg: {of(anchored), of(anchored, long), of(anchored, both), of(coinbase(), anchored, long), of(append(many(29).Txs, anchored)...), of(append([]api.Tx{anchored}, many(29).Txs...)...)},
	}
}

// P6.1 and P6.3: what has no bytes has no id.
func TestEncodeErrors(t *testing.T) {
	for want, l := range faulty() {
		for _, b := range l {
			if s, e := block.Encode(b); s != "" || e != want {
				t.Errorf("%v: %x, %d, not %d", b, s, e, want)
			}
			if k, e := block.Id(b); k != (api.Key{}) || e != want {
				t.Errorf("%v: id %x, %d, not %d", b, k, e, want)
			}
		}
	}
}

// P6.2 and P6.4: what was encoded is decoded; with something behind it is not.
func TestDecodeIsEncoded(t *testing.T) {
	for _, b := range blocks() {
		s, _ := block.Encode(b)
		if got, e := block.Decode(s); !alike(got, b) || e != api.OK {
			t.Errorf("%v: %v, %d", b, got, e)
		}
		for _, tail := range []string{"\x00", "z", strings.Repeat("\x00", 16), s} {
			if got, e := block.Decode(s + tail); !empty(got) || e != api.ErrMore {
				t.Errorf("%v and %x: %v, %d", b, tail, got, e)
			}
		}
	}
}

// P6.2: bytes that end too early, at all places.
func TestDecodeShort(t *testing.T) {
	for _, b := range []api.Block{rich(), of(api.Tx{}), {Txs: make([]api.Tx, 30)}, many(30)} {
		s := bytesOf(b)
		for length := range len(s) {
			if got, e := block.Decode(s[:length]); !empty(got) || e != api.ErrShort {
				t.Errorf("%d bytes of %d: %v, %d", length, len(s), got, e)
			}
		}
	}
}

// P6.2: the number of transactions: codec's error first, then ErrEmpty or ErrMany, ahead of all that is counted, even if no byte is left.
func TestDecodeCount(t *testing.T) {
	head := bytesOf(rich())[:68]
	for _, c := range []struct {
		number string
		e      api.Errno
	}{
		{"", api.ErrShort}, {"\xfd", api.ErrShort}, {"\xfd\x00", api.ErrShort}, {"\xfe\xff\xff\xff", api.ErrShort}, {"\xff\xff\xff\xff\xff\xff\xff\xff", api.ErrShort},
		{"\x01", api.ErrShort}, {"\x1e", api.ErrShort},
		{"\x00", api.ErrEmpty},
		{"\x1f", api.ErrMany}, {"\x20", api.ErrMany}, {"\x80", api.ErrMany}, {"\xfc", api.ErrMany},
		{"\xfd\xfd\x00", api.ErrMany}, {"\xfd\x00\x01", api.ErrMany}, {"\xfd\x01\x01", api.ErrMany}, {"\xfe\x00\x00\x01\x00", api.ErrMany}, {"\xfe\x01\x00\x01\x00", api.ErrMany},
		{"\xff\x00\x00\x00\x00\x01\x00\x00\x00", api.ErrMany}, {"\xff\x01\x00\x00\x00\x01\x00\x00\x00", api.ErrMany},
		{"\xff\x00\x00\x00\x00\x00\x00\x00\x80", api.ErrMany}, {"\xff\xff\xff\xff\xff\xff\xff\xff\xff", api.ErrMany},
		{"\xfd\x00\x00", api.ErrLong}, {"\xfd\x01\x00", api.ErrLong}, {"\xfd\x1f\x00", api.ErrLong}, {"\xfd\xfc\x00", api.ErrLong},
		{"\xfe\x01\x00\x00\x00", api.ErrLong}, {"\xfe\xff\xff\x00\x00", api.ErrLong}, {"\xff\x00\x00\x00\x00\x00\x00\x00\x00", api.ErrLong}, {"\xff\xff\xff\xff\xff\x00\x00\x00\x00", api.ErrLong},
	} {
		behind := []string{""}
		if c.e != api.ErrShort {
			behind = append(behind, "\xff\xff", strings.Repeat("\x00", 1000))
		}
		for _, b := range behind {
			if got, e := block.Decode(head + c.number + b); !empty(got) || e != c.e {
				t.Errorf("%x: %v, %d, not %d", c.number, got, e, c.e)
			}
		}
	}
}

// P6.2: the error of a transaction at any place is told, and of several the one whose bytes stand first.
func TestDecodeFirstError(t *testing.T) {
	head := func(n int) string { return strings.Repeat("h", 68) + string(rune(n)) }
	good := string(bytesOfTx(nil, items(1, 1, 2, 3, 1)))
	bad := map[api.Errno]string{
		api.ErrMany: "\x00\x00\x00\x00\x29",
		api.ErrLong: "\x00\x00\x00\x00\x00\xfd\x01\x00",
	}
	for n := 1; n <= 30; n++ {
		for at := range n {
			ahead := head(n) + strings.Repeat(good, at)
			for want, s := range bad {
				for _, behind := range []string{"", good, bad[api.ErrMany], bad[api.ErrLong], strings.Repeat(good, n)} {
					if got, e := block.Decode(ahead + s + behind); !empty(got) || e != want {
						t.Errorf("%d of %d: %v, %d, not %d", at, n, got, e, want)
					}
				}
			}
			if got, e := block.Decode(ahead); !empty(got) || e != api.ErrShort {
				t.Errorf("%d of %d: %v, %d", at, n, got, e)
			}
		}
		if got, e := block.Decode(head(n) + strings.Repeat(good, n)); len(got.Txs) != n || e != api.OK {
			t.Errorf("%d: %v, %d", n, got, e)
		}
		if got, e := block.Decode(head(n) + strings.Repeat(good, n+1)); !empty(got) || e != api.ErrMore {
			t.Errorf("%d and one: %v, %d", n, got, e)
		}
	}
}

// P6.2 and P6.4: any bytes are read as the document says it, and are those of what was read alone.
func TestDecodeAnything(t *testing.T) {
	r := rand.New(rand.NewSource(8))
	for range 20000 {
		b := make([]byte, 60+r.Intn(200))
		for i := range b {
			// Zeros and ones come often, so that lists end and a good many texts are good.
			b[i] = [...]byte{0, 0, 0, 0, 0, 0, 0, 0, 0, 1, 253, byte(r.Intn(256))}[r.Intn(12)]
		}
		decodesAs(t, string(b))
	}
	for range 20000 {
		// A good head, and so many bytes of 0 that they may just be so many transactions.
		n := 1 + r.Intn(3)
		b := make([]byte, 69+16*n+r.Intn(3)-1)
		b[68] = byte(n)
		if r.Intn(2) == 0 {
			b[r.Intn(len(b))] = byte(r.Intn(256))
		}
		decodesAs(t, string(b))
	}
	for range 2000 {
		b := []byte(bytesOf(random(r)))
		b[r.Intn(len(b))] = [...]byte{0, 1, 40, 41, 253, 255, byte(r.Intn(256))}[r.Intn(7)]
		decodesAs(t, string(b))
		decodesAs(t, string(b[:r.Intn(len(b)+1)]))
		b[68+r.Intn(len(b)-68)]++
		decodesAs(t, string(b))
	}
}

// changed are rich blocks with one thing changed in each.
func changed() []api.Block {
	var l []api.Block
	change := func(f func(b *api.Block)) {
		b := rich()
		f(&b)
		l = append(l, b)
	}
	for i := range 32 {
		change(func(b *api.Block) { b.Prev[i]++ })
		change(func(b *api.Block) { b.Root[i]++ })
		change(func(b *api.Block) { b.Nonce ^= 1 << i })
	}
	change(func(b *api.Block) { b.Prev, b.Root = b.Root, b.Prev })
	change(func(b *api.Block) { slices.Reverse(b.Txs) })
	change(func(b *api.Block) { b.Txs = append(b.Txs, api.Tx{}) })
	for i := range rich().Txs {
		change(func(b *api.Block) { b.Txs[i].Balance++ })
		change(func(b *api.Block) { b.Txs = slices.Delete(b.Txs, i, i+1) })
		change(func(b *api.Block) { b.Txs = slices.Insert(b.Txs, i, items(9, 1, 1, 1, 1)) })
	}
	return l
}

// P6.4: no two blocks that differ have the same bytes, nor the same id.
func TestBytesOfOne(t *testing.T) {
	bytes, ids := map[string]bool{}, map[api.Key]bool{}
	for _, b := range append(changed(), rich()) {
		s, e := block.Encode(b)
		id, _ := block.Id(b)
		if e != api.OK || bytes[s] || ids[id] {
			t.Errorf("%v: %x, %d", b, s, e)
		}
		bytes[s], ids[id] = true, true
	}
	of := map[string]api.Block{}
	for _, b := range blocks() {
		s, _ := block.Encode(b)
		if x, is := of[s]; is && !alike(x, b) {
			t.Errorf("%v and %v: %x", x, b, s)
		}
		of[s] = b
	}
}

// P6.3: the hash, twice, of the bytes, by the library's own.
func TestId(t *testing.T) {
	for _, b := range blocks() {
		once := sha256.Sum256([]byte(bytesOf(b)))
		if got, e := block.Id(b); got != sha256.Sum256(once[:]) || e != api.OK {
			t.Errorf("%v: %x, %d", b, got, e)
		}
	}
}

// P6.3: all notes in order, each as often as it is there, also of what has no bytes.
func TestNotes(t *testing.T) {
	one, two, three := full(1), full(2), full(3)
	for _, c := range []struct {
		b    api.Block
		want []api.Key
	}{
		{api.Block{}, nil},
		{of(), nil},
		{of(coinbase(), api.Tx{}), nil},
		{of(api.Tx{Notes: []api.Key{two}}), []api.Key{two}},
		{of(api.Tx{Notes: []api.Key{three, one}}, coinbase(), api.Tx{Notes: []api.Key{two}}), []api.Key{three, one, two}},
		{of(api.Tx{Notes: []api.Key{two}}, api.Tx{Notes: []api.Key{one, one}}, api.Tx{Notes: []api.Key{two}}), []api.Key{two, one, one, two}},
		// The notes of a coinbase are notes, too.
		{of(api.Tx{Ins: []api.Point{{}}, Notes: []api.Key{one}}), []api.Key{one}},
		{of(api.Tx{Anchor: one, Notes: []api.Key{two}}), []api.Key{two}},
		{of(api.Tx{Nulls: []api.Key{one}, Notes: []api.Key{{}}}), []api.Key{{}}},
	} {
		if got := block.Notes(c.b); !slices.Equal(got, c.want) {
			t.Errorf("%v: %x, not %x", c.b, got, c.want)
		}
	}
	for _, b := range append(blocks(), many(31), many(300), of(items(1, 0, 0, 0, 41), items(2, 0, 0, 0, 300))) {
		var want []api.Key
		for _, t := range b.Txs {
			want = append(want, t.Notes...)
		}
		if got := block.Notes(b); !slices.Equal(got, want) {
			t.Errorf("%v: %x, not %x", b, got, want)
		}
	}
}

// P6.3: the Ins of all but coinbases, wherever these stand, also of what has no bytes.
func TestSigs(t *testing.T) {
	for _, c := range []struct {
		b    api.Block
		want int
	}{
		{api.Block{}, 0},
		{of(coinbase()), 0},
		{of(coinbase(), coinbase(), coinbase()), 0},
		{of(api.Tx{Ins: []api.Point{{Tx: full(1)}}}), 1},
		{of(api.Tx{Ins: []api.Point{{}}}, api.Tx{Ins: []api.Point{{Tx: full(1)}, {Tx: full(1)}}}), 2},
		{of(items(1, 3, 0, 0, 0), coinbase(), items(2, 4, 5, 6, 7)), 7},
		// Two of Tx 0 are no coinbase: both are counted.
		{of(api.Tx{Ins: make([]api.Point, 2)}), 2},
		{of(api.Tx{Ins: []api.Point{{}, {Tx: full(1)}}}), 2},
		{of(api.Tx{Ins: []api.Point{{Tx: api.Key{31: 1}}}}), 1},
		{of(items(1, 0, 40, 40, 40)), 0},
		{of(items(1, 41, 0, 0, 0), items(2, 300, 0, 0, 0)), 341},
		{api.Block{Txs: slices.Repeat([]api.Tx{items(1, 40, 0, 0, 0)}, 40)}, 1600},
		{rich(), 3},
	} {
		if got := block.Sigs(c.b); got != c.want {
			t.Errorf("%v: %d, not %d", c.b, got, c.want)
		}
	}
}

// P6.3: how many bytes a transaction has; those that have none have 0.
func TestSize(t *testing.T) {
	for _, c := range []struct {
		t    api.Tx
		want int
	}{
		{api.Tx{}, 16}, {api.Tx{Expiry: math.MaxUint32, Balance: math.MinInt64}, 16},
		{items(1, 1, 0, 0, 0), 52}, {items(1, 0, 1, 0, 0), 56}, {items(1, 0, 0, 1, 0), 80}, {items(1, 0, 0, 2, 0), 112}, {items(1, 0, 0, 0, 1), 48},
		{items(1, 40, 40, 40, 40), 16 + 40*36 + 40*40 + 32 + 40*32 + 40*32}, {coinbase(), 92},
		{api.Tx{Anchor: full(1)}, 0}, {items(1, 41, 0, 0, 0), 0}, {items(1, 0, 41, 0, 0), 0}, {items(1, 0, 0, 41, 0), 0}, {items(1, 0, 0, 0, 41), 0}, {items(1, 300, 300, 300, 300), 0},
	} {
		if got := block.Size(c.t); got != c.want {
			t.Errorf("%v: %d, not %d", c.t, got, c.want)
		}
	}
	for _, b := range blocks() {
		for _, x := range b.Txs {
			if got := block.Size(x); got != len(bytesOfTx(nil, x)) {
				t.Errorf("%v: %d", x, got)
			}
		}
	}
}

// R3: what is handed in is not changed, what lies behind its length neither.
func TestNothingIsChanged(t *testing.T) {
	whole := rich()
	part := whole
	part.Txs = whole.Txs[:2]
	notes := whole.Txs[1].Notes
	part.Txs[1].Notes = notes[:1]
	block.Encode(part)
	block.Id(part)
	block.Sigs(part)
	block.Size(part.Txs[1])
	_ = append(block.Notes(part), full(99))
	_ = append(block.Notes(of(part.Txs[1])), full(99))
	whole.Txs[1].Notes = notes
	if !alike(whole, rich()) {
		t.Errorf("%v", whole)
	}
}

// R3: an answer is new memory: to write to one of its lists, or behind it, changes nothing else.
func TestAnswersAreNew(t *testing.T) {
	b := rich()
	for _, b := range []api.Block{b, of(b.Txs[1]), of(api.Tx{}, b.Txs[1])} {
		clear(block.Notes(b))
	}
	if !alike(b, rich()) {
		t.Errorf("%v", b)
	}
	s := bytesOf(rich())
	first, _ := block.Decode(s)
	second, _ := block.Decode(s)
	for i := range first.Txs {
		x := &first.Txs[i]
		_ = append(x.Nulls, full(99), full(98))
		_ = append(x.Notes, full(99), full(98))
		_ = append(x.Ins, api.Point{Index: 9}, api.Point{Index: 9})
		_ = append(x.Outs, api.Out{Value: 9}, api.Out{Value: 9})
		if !alike(first, rich()) {
			t.Errorf("the lists of %d share memory", i)
		}
	}
	clear(first.Txs[1].Notes)
	clear(first.Txs[1].Ins)
	clear(first.Txs)
	if third, e := block.Decode(s); !alike(second, rich()) || !alike(third, rich()) || e != api.OK {
		t.Errorf("%v, %v, %d", second, third, e)
	}
}

// R5: what was told before changes no answer.
func TestAgain(t *testing.T) {
	s := bytesOf(rich())
	for range 3 {
		for _, x := range []string{"", s[:68] + "\x00", s, s[:68] + "\x1f", s + "z", s[:len(s)-1], s} {
			decodesAs(t, x)
		}
		block.Encode(of(api.Tx{Anchor: full(1)}))
		if got, e := block.Encode(rich()); got != s || e != api.OK {
			t.Errorf("%x, %d", got, e)
		}
	}
}

// P6.2: no bytes make Decode panic, or answer otherwise than the document says.
func FuzzDecode(f *testing.F) {
	for _, b := range []api.Block{rich(), of(api.Tx{}), {Txs: make([]api.Tx, 30)}} {
		f.Add(bytesOf(b))
	}
	f.Fuzz(func(t *testing.T, s string) { decodesAs(t, s) })
}
