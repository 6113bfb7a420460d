package chain_test

import (
	"math"
	"math/rand"
	"reflect"
	"slices"
	"testing"

	"thurible/anchor"
	"thurible/api"
	"thurible/block"
	"thurible/chain"
	"thurible/coins"
	"thurible/money"
	"thurible/oracle"
	"thurible/tree"
	"thurible/tx"
)

// key is a key that begins by these bytes.
func key(l ...byte) (k api.Key) {
	copy(k[:], l)
	return k
}

// outs are outs of these values, each with a lock of its own.
func outs(values ...int64) []api.Out {
	var l []api.Out
	for i, v := range values {
		l = append(l, api.Out{Value: v, Lock: key(7, byte(i))})
	}
	return l
}

// id is t's; it has one.
func id(t *testing.T, x api.Tx) api.Key {
	t.Helper()
	k, e := tx.Id(x)
	if e != api.OK {
		t.Fatal("Id", e)
	}
	return k
}

// goods is verdicts that all of l is good, but for what has no Id.
func goods(l ...api.Tx) []oracle.Verdict {
	var v []oracle.Verdict
	for _, x := range l {
		if k, e := tx.Id(x); e == api.OK {
			v = append(v, oracle.Good(k, oracle.Items(x))...)
		}
	}
	return v
}

// base is a coinbase of a height, with one out.
func base(height uint32, value int64) api.Tx {
	return api.Tx{Ins: []api.Point{{Index: height}}, Outs: outs(value)}
}

// rooted is b with the root that it should have on c.
func rooted(t *testing.T, c chain.Chain, b api.Block) api.Block {
	t.Helper()
	u, e := tree.All(c.Tree, block.Notes(b))
	if e != api.OK {
		t.Fatal("All", e)
	}
	b.Root = tree.Root(u)
	return b
}

// next is the block behind c that has these, and claims such fees.
func next(t *testing.T, c chain.Chain, fees int64, l ...api.Tx) api.Block {
	t.Helper()
	return rooted(t, c, api.Block{Prev: c.Tip, Txs: append([]api.Tx{base(c.Height+1, api.Subsidy+fees)}, l...)})
}

// connected is c with b behind, which may be.
func connected(t *testing.T, c chain.Chain, b api.Block) chain.Chain {
	t.Helper()
	d, e := chain.Connect(c, b, goods(b.Txs...))
	if e != api.OK {
		t.Fatal("Connect", e)
	}
	return d
}

// grown is a chain of n blocks of coinbases alone.
func grown(t *testing.T, n int) chain.Chain {
	t.Helper()
	c := chain.Genesis()
	for range n {
		c = connected(t, c, next(t, c, 0))
	}
	return c
}

// coinOf is where the coin is that the coinbase of a height made.
func coinOf(t *testing.T, c chain.Chain, height uint32) api.Point {
	t.Helper()
	for _, x := range c.Coins {
		if x.Base && x.Height == height {
			return x.At
		}
	}
	t.Fatal("no coin of", height)
	return api.Point{}
}

// plain is x without lists that are empty but not nil: both are lists without elements.
func plain[T any](x T) T {
	v := reflect.New(reflect.TypeOf(&x).Elem()).Elem()
	v.Set(copied(reflect.ValueOf(&x).Elem()))
	return v.Interface().(T)
}

// copied is v in memory of its own, what lies behind the lengths of its lists, too; lists without elements are nil.
func copied(v reflect.Value) reflect.Value {
	c := reflect.New(v.Type()).Elem()
	switch v.Kind() {
	case reflect.Slice:
		if v.Len() == 0 {
			return c
		}
		all := v.Slice3(0, v.Cap(), v.Cap())
		c.Set(reflect.MakeSlice(v.Type(), v.Cap(), v.Cap()))
		for i := range v.Cap() {
			c.Index(i).Set(copied(all.Index(i)))
		}
		c.Set(c.Slice(0, v.Len()))
	case reflect.Struct:
		for i := range v.NumField() {
			c.Field(i).Set(copied(v.Field(i)))
		}
	default:
		c.Set(v)
	}
	return c
}

// same is whether a and b are the same, but for lists without elements.
func same[T any](a, b T) bool {
	return reflect.DeepEqual(plain(a), plain(b))
}

// extent is where a list lies, with what is behind its length.
type extent struct{ from, to uintptr }

// extents is where all lists of v lie, in order of nothing.
func extents(v reflect.Value, l []extent) []extent {
	switch v.Kind() {
	case reflect.Slice:
		if v.Cap() > 0 && v.Type().Elem().Size() > 0 {
			p := v.Pointer()
			l = append(l, extent{p, p + uintptr(v.Cap())*v.Type().Elem().Size()})
		}
		for i := range v.Len() {
			l = extents(v.Index(i), l)
		}
	case reflect.Struct:
		for i := range v.NumField() {
			l = extents(v.Field(i), l)
		}
	}
	return l
}

// apart is whether no two lists of the answers share memory, and none of them any with an argument.
func apart(answers, args []any) bool {
	var own, other []extent
	for _, x := range answers {
		own = extents(reflect.ValueOf(x), own)
	}
	for _, x := range args {
		other = extents(reflect.ValueOf(x), other)
	}
	slices.SortFunc(own, func(a, b extent) int {
		if a.from < b.from {
			return -1
		}
		return 1
	})
	for i, x := range own {
		if i > 0 && own[i-1].to > x.from {
			return false
		}
		for _, y := range other {
			if x.from < y.to && y.from < x.to {
				return false
			}
		}
	}
	return true
}

// widened is v with room behind each of its lists, in which there is something.
func widened(v reflect.Value) reflect.Value {
	c := reflect.New(v.Type()).Elem()
	switch v.Kind() {
	case reflect.Slice:
		n := v.Len()
		c.Set(reflect.MakeSlice(v.Type(), n+3, n+3))
		for i := range n {
			c.Index(i).Set(widened(v.Index(i)))
		}
		for i := n; i < n+3; i++ {
			c.Index(i).Set(marked(v.Type().Elem()))
		}
		c.Set(c.Slice(0, n))
	case reflect.Struct:
		for i := range v.NumField() {
			c.Field(i).Set(widened(v.Field(i)))
		}
	default:
		c.Set(v)
	}
	return c
}

// marked is something of a type that is not its zero value.
func marked(t reflect.Type) reflect.Value {
	v := reflect.New(t).Elem()
	switch t.Kind() {
	case reflect.Struct:
		v.Field(0).Set(marked(t.Field(0).Type))
	case reflect.Array:
		v.Index(0).Set(marked(t.Elem()))
	case reflect.Uint8, reflect.Uint32:
		v.SetUint(77)
	case reflect.Int64, reflect.Int:
		v.SetInt(77)
	}
	return v
}

// kept is whether do, which is handed roomy copies of the arguments, left them as they were, and answers what shares nothing; told twice it tells the same.
func kept(t *testing.T, what string, args []any, do func(args []any) []any) {
	t.Helper()
	var in []any
	for _, x := range args {
		in = append(in, widened(reflect.ValueOf(x)).Interface())
	}
	var was []any
	for _, x := range in {
		was = append(was, copied(reflect.ValueOf(x)).Interface())
	}
	answers := do(in)
	for i := range in {
		if !sameBehind(reflect.ValueOf(in[i]), reflect.ValueOf(was[i])) {
			t.Error(what, "changed argument", i)
		}
	}
	if !apart(answers, in) {
		t.Error(what, "shares memory")
	}
	again := do(in)
	for i := range answers {
		if !reflect.DeepEqual(copied(reflect.ValueOf(answers[i])).Interface(), copied(reflect.ValueOf(again[i])).Interface()) {
			t.Error(what, "told another answer when asked again", i)
		}
	}
}

// sameBehind is whether a and b are the same, with what is behind the lengths of their lists; lists without elements have nothing there.
func sameBehind(a, b reflect.Value) bool {
	switch a.Kind() {
	case reflect.Slice:
		if a.Len() != b.Len() {
			return false
		}
		if a.Len() == 0 {
			return true
		}
		a, b = a.Slice(0, a.Cap()), b.Slice(0, b.Cap())
		for i := range a.Len() {
			if !sameBehind(a.Index(i), b.Index(i)) {
				return false
			}
		}
		return true
	case reflect.Struct:
		for i := range a.NumField() {
			if !sameBehind(a.Field(i), b.Field(i)) {
				return false
			}
		}
		return true
	}
	return reflect.DeepEqual(a.Interface(), b.Interface())
}

func TestGenesis(t *testing.T) {
	c := chain.Genesis()
	root := tree.Empty()[api.Depth]
	if !same(c, chain.Chain{Ring: anchor.Ring{L: []api.Key{root}}}) {
		t.Error(c)
	}
	if !apart([]any{c, chain.Genesis()}, nil) {
		t.Error("two of them share memory")
	}
}

func TestStart(t *testing.T) {
	c := chain.Chain{
		Height: 41, Tip: key(1),
		Coins: []coins.Coin{{At: api.Point{Tx: key(2), Index: 3}, Out: outs(5)[0], Height: 6, Base: true}},
		Nulls: []api.Key{key(3), key(4)},
		Tree:  tree.Of([]api.Key{key(5)}),
		Ring:  anchor.Ring{L: []api.Key{key(6), key(7)}},
		Pool:  89,
		Past:  []chain.Step{{}},
	}
	want := chain.Work{Height: 42, Coins: c.Coins, Nulls: c.Nulls, Ring: c.Ring, Pool: 89}
	if w := chain.Start(c); !same(w, want) {
		t.Error(w)
	}
	kept(t, "Start", []any{c}, func(a []any) []any { return []any{chain.Start(a[0].(chain.Chain))} })
	for _, x := range []struct{ height, next uint32 }{{0, 1}, {1, 2}, {math.MaxUint32 - 1, math.MaxUint32}, {math.MaxUint32, 0}} {
		if w := chain.Start(chain.Chain{Height: x.height}); !same(w, chain.Work{Height: x.next}) {
			t.Error(x.height, w.Height)
		}
	}
	if w := chain.Start(chain.Chain{Pool: -5}); w.Pool != -5 {
		t.Error("a Pool that may not be is told as it is", w.Pool)
	}
}

// work is a work to which full can be put.
func work() chain.Work {
	return chain.Work{
		Height: 20,
		Coins: []coins.Coin{
			{At: api.Point{Tx: key(10), Index: 1}, Out: api.Out{Value: 1000}, Height: 5},
			{At: api.Point{Tx: key(20)}, Out: api.Out{Value: 300}, Height: 17, Base: true},
			{At: api.Point{Tx: key(30)}, Out: api.Out{Value: 7}, Height: 18, Base: true},
		},
		Nulls: []api.Key{key(1), key(5)},
		Ring:  anchor.Ring{L: []api.Key{key(91), key(92), key(93), key(94), key(95)}},
		Pool:  5000, Came: 60, Fees: 8,
	}
}

// full is a transaction that has all that one can have; its fee is 1300 + 2000 - 2100.
func full() api.Tx {
	return api.Tx{
		Expiry:  20,
		Ins:     []api.Point{{Tx: key(20)}, {Tx: key(10), Index: 1}},
		Outs:    outs(2000, 100),
		Anchor:  key(92),
		Nulls:   []api.Key{key(6), key(2)},
		Notes:   []api.Key{key(66)},
		Balance: 2000,
	}
}

// made is the coins that x makes at a height.
func made(t *testing.T, x api.Tx, height uint32) []coins.Coin {
	t.Helper()
	var l []coins.Coin
	for i, o := range x.Outs {
		l = append(l, coins.Coin{At: api.Point{Tx: id(t, x), Index: uint32(i)}, Out: o, Height: height, Base: tx.Coinbase(x)})
	}
	return l
}

// rising is coins in order.
func rising(l []coins.Coin) []coins.Coin {
	s := slices.Clone(l)
	slices.SortFunc(s, func(a, b coins.Coin) int {
		if coins.Less(a.At, b.At) {
			return -1
		}
		return 1
	})
	return s
}

func TestAdd(t *testing.T) {
	w, x := work(), full()
	want := work()
	want.Coins = rising(append(made(t, x, 20), w.Coins[2]))
	want.Nulls = []api.Key{key(1), key(2), key(5), key(6)}
	want.Pool, want.Fees = 3000, 1208
	got, fee, e := chain.Add(w, x, goods(x))
	if e != api.OK || fee != 1200 || !same(got, want) {
		t.Error(e, fee, got)
	}
	// Into secret: what comes there stands apart from what can leave.
	y := api.Tx{Ins: []api.Point{{Tx: key(10), Index: 1}}, Notes: []api.Key{key(1)}, Balance: -900}
	want = work()
	want.Coins, want.Came, want.Fees = want.Coins[1:], 960, 108
	if got, fee, e = chain.Add(w, y, goods(y)); e != api.OK || fee != 100 || !same(got, want) {
		t.Error(e, fee, got)
	}
	// Neither: coins alone, without a fee, and without an expiry.
	y = api.Tx{Ins: []api.Point{{Tx: key(20)}}, Outs: outs(299, 1)}
	want = work()
	want.Coins = rising(append(made(t, y, 20), want.Coins[0], want.Coins[2]))
	if got, fee, e = chain.Add(w, y, goods(y)); e != api.OK || fee != 0 || !same(got, want) {
		t.Error(e, fee, got)
	}
	// In secret alone.
	y = api.Tx{Nulls: []api.Key{key(0)}, Anchor: key(95), Notes: []api.Key{key(1), key(1)}}
	want = work()
	want.Nulls = []api.Key{key(0), key(1), key(5)}
	if got, fee, e = chain.Add(w, y, goods(y)); e != api.OK || fee != 0 || !same(got, want) {
		t.Error(e, fee, got)
	}
}

// addFault is something that is wrong with a transaction, or with what it is put to, and its error.
type addFault struct {
	e  api.Errno
	by func(t *testing.T, w *chain.Work, x *api.Tx)
	// Behind all others, when the transaction is what it will be.
	last func(t *testing.T, w *chain.Work, x api.Tx, l *[]oracle.Verdict)
}

func addFaults() []addFault {
	return []addFault{
		{e: api.ErrRepeat, by: func(_ *testing.T, _ *chain.Work, x *api.Tx) { x.Ins = append(x.Ins, x.Ins[0]) }},
		{e: api.ErrExpiry, by: func(_ *testing.T, _ *chain.Work, x *api.Tx) { x.Expiry = 19 }},
		{e: api.ErrProof, last: func(_ *testing.T, _ *chain.Work, x api.Tx, l *[]oracle.Verdict) { (*l)[len(*l)-1].Good = false }},
		{e: api.ErrInput, by: func(_ *testing.T, w *chain.Work, x *api.Tx) { w.Coins[1].Height++ }},
		{e: api.ErrTwice, last: func(t *testing.T, w *chain.Work, x api.Tx, _ *[]oracle.Verdict) {
			w.Coins = rising(append(w.Coins, made(t, x, 3)[1]))
		}},
		{e: api.ErrSpent, by: func(_ *testing.T, w *chain.Work, x *api.Tx) { x.Nulls[1] = key(5) }},
		{e: api.ErrAnchor, by: func(_ *testing.T, w *chain.Work, x *api.Tx) { x.Anchor = key(91) }},
		{e: api.ErrMoney, by: func(_ *testing.T, w *chain.Work, x *api.Tx) { w.Coins[0].Out.Value = -1 }},
		{e: api.ErrPool, by: func(_ *testing.T, w *chain.Work, x *api.Tx) { w.Pool = 1999 }},
		{e: api.ErrMoney, by: func(_ *testing.T, w *chain.Work, x *api.Tx) { w.Fees = api.Max }},
	}
}

// TestAddFirst: of all that is wrong the first error is told, of all choices of faults.
func TestAddFirst(t *testing.T) {
	fs := addFaults()
	for bits := range 1 << len(fs) {
		w, x := work(), full()
		want := api.OK
		for i, f := range fs {
			if bits>>i&1 == 0 {
				continue
			}
			if want == api.OK {
				want = f.e
			}
			if f.by != nil {
				f.by(t, &w, &x)
			}
		}
		l := goods(x)
		for i, f := range fs {
			if bits>>i&1 == 1 && f.last != nil {
				f.last(t, &w, x, &l)
			}
		}
		got, fee, e := chain.Add(w, x, l)
		if e != want {
			t.Errorf("%b: %d, want %d", bits, e, want)
		}
		if e != api.OK && (fee != 0 || !same(got, chain.Work{})) {
			t.Errorf("%b: something beside an error", bits)
		}
	}
}

func TestAddEdges(t *testing.T) {
	note := []api.Key{key(50)}
	for i, x := range []struct {
		by   func(w *chain.Work, x *api.Tx)
		want api.Errno
	}{
		{func(w *chain.Work, x *api.Tx) { x.Expiry = 0 }, api.OK},
		{func(w *chain.Work, x *api.Tx) { x.Expiry = 21 }, api.OK},
		{func(w *chain.Work, x *api.Tx) { x.Expiry, w.Height = 21, 22 }, api.ErrExpiry},
		{func(w *chain.Work, x *api.Tx) { x.Expiry, w.Height = math.MaxUint32, math.MaxUint32 }, api.OK},
		{func(w *chain.Work, x *api.Tx) { x.Anchor = key(95) }, api.OK},
		{func(w *chain.Work, x *api.Tx) { x.Anchor = key(96) }, api.ErrAnchor},
		{func(w *chain.Work, x *api.Tx) { w.Ring.L = nil }, api.ErrAnchor},
		{func(w *chain.Work, x *api.Tx) { w.Pool = 2000 }, api.OK},
		{func(w *chain.Work, x *api.Tx) { w.Pool = api.Max + 1 }, api.ErrPool},
		{func(w *chain.Work, x *api.Tx) { w.Pool, w.Came = 1999, api.Max }, api.ErrPool},
		{func(w *chain.Work, x *api.Tx) { w.Came = -1 }, api.OK},
		{func(w *chain.Work, x *api.Tx) { w.Fees = api.Max - 1200 }, api.OK},
		{func(w *chain.Work, x *api.Tx) { w.Fees = api.Max - 1199 }, api.ErrMoney},
		{func(w *chain.Work, x *api.Tx) { w.Fees = -1 }, api.ErrMoney},
		{func(w *chain.Work, x *api.Tx) { x.Outs[0].Value = 3200 }, api.OK},
		{func(w *chain.Work, x *api.Tx) { x.Outs[0].Value = 3201 }, api.ErrMoney},
		{func(w *chain.Work, x *api.Tx) { x.Balance = 799 }, api.ErrMoney},
		{func(w *chain.Work, x *api.Tx) { x.Balance = 800 }, api.OK},
		// What came by the work can't leave by it, and what goes into secret is not held against Pool.
		{func(w *chain.Work, x *api.Tx) { x.Balance, x.Outs, w.Pool = -1200, outs(100), -7 }, api.OK},
		{func(w *chain.Work, x *api.Tx) { x.Balance, x.Outs, w.Came = -1200, outs(100), api.Max-1200 }, api.OK},
		{func(w *chain.Work, x *api.Tx) { x.Balance, x.Outs, w.Came = -1200, outs(100), api.Max-1199 }, api.ErrPool},
		{func(w *chain.Work, x *api.Tx) { x.Balance, x.Outs, w.Came = -1200, outs(101), 0 }, api.ErrMoney},
		{func(w *chain.Work, x *api.Tx) { x.Balance, x.Outs, w.Came = 0, outs(100), -1 }, api.ErrPool},
		{func(w *chain.Work, x *api.Tx) { x.Balance, x.Outs, w.Pool = 0, outs(100), -1 }, api.OK},
		// No nullifiers: no anchor is asked for, and none may stand there.
		{func(w *chain.Work, x *api.Tx) {
			x.Nulls, x.Anchor, x.Balance, x.Outs, w.Ring.L = nil, api.Key{}, 0, outs(100), nil
		}, api.OK},
		{func(w *chain.Work, x *api.Tx) { x.Nulls, x.Balance, x.Outs = nil, 0, outs(100) }, api.ErrArg},
		// A coinbase is none of those that are added.
		{func(w *chain.Work, x *api.Tx) { *x = base(20, 5) }, api.ErrCoin},
		{func(w *chain.Work, x *api.Tx) { x.Ins[0].Tx = api.Key{} }, api.ErrCoin},
		{func(w *chain.Work, x *api.Tx) { *x = api.Tx{} }, api.ErrEmpty},
		{func(w *chain.Work, x *api.Tx) { x.Outs, x.Notes = nil, nil }, api.ErrEmpty},
		{func(w *chain.Work, x *api.Tx) { x.Nulls = slices.Repeat(note, 41) }, api.ErrMany},
		{func(w *chain.Work, x *api.Tx) { x.Nulls = slices.Repeat(note, 2) }, api.ErrRepeat},
		{func(w *chain.Work, x *api.Tx) { x.Notes = slices.Repeat(note, 2) }, api.OK},
		{func(w *chain.Work, x *api.Tx) { x.Outs[1].Value = -1 }, api.ErrMoney},
		{func(w *chain.Work, x *api.Tx) { x.Balance = api.Max + 1 }, api.ErrMoney},
		{func(w *chain.Work, x *api.Tx) { x.Balance = math.MinInt64 }, api.ErrMoney},
		{func(w *chain.Work, x *api.Tx) { x.Balance = api.Max }, api.ErrMoney},
		// Ripe at 20 is what was made at 17, not what was made at 18.
		{func(w *chain.Work, x *api.Tx) { x.Ins[0].Tx = key(30) }, api.ErrInput},
		{func(w *chain.Work, x *api.Tx) { x.Ins[0].Index = 1 }, api.ErrInput},
		{func(w *chain.Work, x *api.Tx) { w.Coins = nil }, api.ErrInput},
		{func(w *chain.Work, x *api.Tx) { x.Nulls[0] = key(1) }, api.ErrSpent},
		{func(w *chain.Work, x *api.Tx) { w.Nulls = nil }, api.OK},
	} {
		w, y := work(), full()
		x.by(&w, &y)
		if _, _, e := chain.Add(w, y, goods(y)); e != x.want {
			t.Error(i, e, "want", x.want)
		}
	}
}

// TestAddProofs: each of a transaction's items has to be good, by its own name.
func TestAddProofs(t *testing.T) {
	x := full()
	good := goods(x)
	for i := range good {
		for _, by := range []func(v *oracle.Verdict){
			func(v *oracle.Verdict) { v.Good = false },
			func(v *oracle.Verdict) { v.Tx[31]++ },
			func(v *oracle.Verdict) { v.Item = 99 },
		} {
			l := slices.Clone(good)
			by(&l[i])
			if _, _, e := chain.Add(work(), x, l); e != api.ErrProof {
				t.Error(i, e)
			}
		}
	}
	if len(good) != 5 {
		t.Error(len(good))
	}
	if _, _, e := chain.Add(work(), x, append(oracle.Good(key(1), 9), good...)); e != api.OK {
		t.Error(e)
	}
	y := full()
	y.Outs[0].Lock[0]++
	if _, _, e := chain.Add(work(), y, good); e != api.ErrProof {
		t.Error("by another one's verdicts", e)
	}
}

func TestAddMemory(t *testing.T) {
	coinsOnly := api.Tx{Ins: []api.Point{{Tx: key(20)}}, Outs: outs(300)}
	secret := api.Tx{Nulls: []api.Key{key(0)}, Anchor: key(95), Notes: []api.Key{key(1)}}
	bad := full()
	bad.Anchor = key(90)
	for _, x := range []api.Tx{full(), coinsOnly, secret, bad} {
		kept(t, "Add", []any{work(), x, goods(x)}, func(a []any) []any {
			w, fee, e := chain.Add(a[0].(chain.Work), a[1].(api.Tx), a[2].([]oracle.Verdict))
			return []any{w, fee, e}
		})
	}
}

func TestConnect(t *testing.T) {
	c := grown(t, 5)
	p := api.Tx{Ins: []api.Point{coinOf(t, c, 1)}, Outs: outs(api.Subsidy - 700)}
	q := api.Tx{Ins: []api.Point{{Tx: id(t, p)}}, Notes: []api.Key{key(5), key(6)}, Balance: -(api.Subsidy - 1000)}
	b := next(t, c, 1000, p, q)
	// The coinbase puts some of what it claims into secret, and makes a note.
	b.Txs[0].Outs[0].Value -= 40
	b.Txs[0].Balance = -40
	b.Txs[0].Notes = []api.Key{key(4)}
	b.Txs[0].Expiry = 6
	b.Nonce = 77
	b = rooted(t, c, b)
	d, e := chain.Connect(c, b, goods(p, q))
	if e != api.OK {
		t.Fatal(e)
	}
	tip, _ := block.Id(b)
	grow := tree.Of([]api.Key{key(4), key(5), key(6)})
	bare := c
	bare.Past = nil
	want := chain.Chain{
		Height: 6, Tip: tip,
		Coins: rising(append(made(t, b.Txs[0], 6), slices.DeleteFunc(slices.Clone(c.Coins), func(x coins.Coin) bool { return x.At == p.Ins[0] })...)),
		Tree:  grow,
		Ring:  anchor.Put(c.Ring, tree.Root(grow)),
		Pool:  api.Subsidy - 1000 + 40,
		Past:  append(slices.Clone(c.Past[1:]), chain.Step{Block: b, Before: bare}),
	}
	if !same(d, want) {
		t.Error(d)
	}
	// And out of secret again, by nullifiers.
	root, _ := anchor.Last(d.Ring)
	u := api.Tx{Nulls: []api.Key{key(9), key(8)}, Anchor: root, Balance: 2000, Outs: outs(1500)}
	f := connected(t, d, next(t, d, 500, u))
	if f.Pool != d.Pool-2000 || !slices.Equal(f.Nulls, []api.Key{key(8), key(9)}) || f.Tree != d.Tree || f.Height != 7 || len(f.Coins) != len(d.Coins)+2 {
		t.Error(f.Pool, f.Nulls, len(f.Coins))
	}
}

// TestOrder: a block's transactions are added in their order, so that a child stands behind its parent.
func TestOrder(t *testing.T) {
	c := grown(t, 5)
	p := api.Tx{Ins: []api.Point{coinOf(t, c, 1)}, Outs: outs(api.Subsidy)}
	q := api.Tx{Ins: []api.Point{{Tx: id(t, p)}}, Outs: outs(api.Subsidy - 1)}
	if _, e := chain.Connect(c, next(t, c, 1, p, q), goods(p, q)); e != api.OK {
		t.Error(e)
	}
	if _, e := chain.Connect(c, next(t, c, 1, q, p), goods(p, q)); e != api.ErrInput {
		t.Error(e)
	}
	// The first error is that of the first one that has any.
	r := api.Tx{Ins: []api.Point{coinOf(t, c, 2)}, Outs: outs(api.Subsidy + 1)}
	if _, e := chain.Connect(c, next(t, c, 0, r, q), goods(q, r)); e != api.ErrMoney {
		t.Error(e)
	}
	if _, e := chain.Connect(c, next(t, c, 0, q, r), goods(q, r)); e != api.ErrInput {
		t.Error(e)
	}
	if _, e := chain.Connect(c, next(t, c, 0, p, base(9, 1)), goods(p)); e != api.ErrCoin {
		t.Error("a second coinbase", e)
	}
}

// TestLeave: five thousand leave secret of which some went in by the same block.
func TestLeave(t *testing.T) {
	c := grown(t, 5)
	root, _ := anchor.Last(c.Ring)
	c.Pool = 4999
	in := api.Tx{Ins: []api.Point{coinOf(t, c, 1)}, Notes: []api.Key{key(5)}, Balance: -api.Subsidy}
	out := api.Tx{Nulls: []api.Key{key(9)}, Anchor: root, Balance: 5000, Outs: outs(5000)}
	for _, l := range [][]api.Tx{{in, out}, {out, in}} {
		if _, e := chain.Connect(c, next(t, c, 0, l...), goods(in, out)); e != api.ErrPool {
			t.Error(e)
		}
	}
	c.Pool = 5000
	for _, l := range [][]api.Tx{{in, out}, {out, in}} {
		if d, e := chain.Connect(c, next(t, c, 0, l...), goods(in, out)); e != api.OK || d.Pool != api.Subsidy {
			t.Error(e, d.Pool)
		}
	}
}

// blockFault is something that is wrong with a block, or with what it is put behind, and its error.
type blockFault struct {
	e  api.Errno
	by func(t *testing.T, c *chain.Chain, b *api.Block)
	// Behind all others.
	last func(t *testing.T, c *chain.Chain, b *api.Block, l *[]oracle.Verdict)
}

func blockFaults() []blockFault {
	return []blockFault{
		{e: api.ErrPrev, by: func(_ *testing.T, _ *chain.Chain, b *api.Block) { b.Prev[31]++ }},
		{e: api.ErrArg, by: func(_ *testing.T, _ *chain.Chain, b *api.Block) { b.Txs[1].Anchor = key(1) }},
		{e: api.ErrMany, by: func(_ *testing.T, _ *chain.Chain, b *api.Block) {
			for i := range 61 {
				b.Txs[1+i/40].Ins = append(b.Txs[1+i/40].Ins[:i%40:i%40], api.Point{Tx: key(200), Index: uint32(i)})
			}
		}},
		{e: api.ErrCoin, by: func(_ *testing.T, _ *chain.Chain, b *api.Block) { b.Txs[0].Ins[0].Tx = key(1) }},
		{e: api.ErrExpiry, by: func(_ *testing.T, _ *chain.Chain, b *api.Block) { b.Txs[0].Expiry = 5 }},
		{e: api.ErrProof, last: func(_ *testing.T, _ *chain.Chain, _ *api.Block, l *[]oracle.Verdict) { *l = nil }},
		{e: api.ErrTwice, last: func(t *testing.T, c *chain.Chain, b *api.Block, _ *[]oracle.Verdict) {
			c.Coins = rising(append(slices.Clone(c.Coins), made(t, b.Txs[0], 6)...))
		}},
		{e: api.ErrPool, by: func(_ *testing.T, c *chain.Chain, b *api.Block) { c.Pool = -1 }},
		{e: api.ErrClaim, by: func(_ *testing.T, _ *chain.Chain, b *api.Block) { b.Txs[0].Outs[0].Value++ }},
		{e: api.ErrFull, last: func(_ *testing.T, c *chain.Chain, _ *api.Block, _ *[]oracle.Verdict) {
			c.Tree.Count = math.MaxUint32
		}},
		{e: api.ErrRoot, last: func(_ *testing.T, c *chain.Chain, b *api.Block, _ *[]oracle.Verdict) { b.Root[0]++ }},
	}
}

// TestConnectFirst: of all that is wrong the first error is told, of all choices of faults.
func TestConnectFirst(t *testing.T) {
	fs := blockFaults()
	c0 := grown(t, 5)
	p := api.Tx{Ins: []api.Point{coinOf(t, c0, 1)}, Outs: outs(api.Subsidy - 700)}
	q := api.Tx{Ins: []api.Point{coinOf(t, c0, 2)}, Notes: []api.Key{key(5), key(6)}, Balance: -(api.Subsidy - 300)}
	for bits := range 1 << len(fs) {
		c := plain(c0)
		b := plain(next(t, c, 1000, p, q))
		want := api.OK
		for i, f := range fs {
			if bits>>i&1 == 0 {
				continue
			}
			if want == api.OK {
				want = f.e
			}
			if f.by != nil {
				f.by(t, &c, &b)
			}
		}
		l := goods(b.Txs[1:]...)
		for i, f := range fs {
			if bits>>i&1 == 1 && f.last != nil {
				f.last(t, &c, &b, &l)
			}
		}
		d, e := chain.Connect(c, b, l)
		if e != want {
			t.Errorf("%b: %d, want %d", bits, e, want)
		}
		if e != api.OK && !same(d, chain.Chain{}) {
			t.Errorf("%b: something beside an error", bits)
		}
	}
}

func TestConnectEdges(t *testing.T) {
	c0 := grown(t, 5)
	p := api.Tx{Ins: []api.Point{coinOf(t, c0, 1)}, Outs: outs(api.Subsidy - 700)}
	q := api.Tx{Ins: []api.Point{coinOf(t, c0, 2)}, Notes: []api.Key{key(5), key(6)}, Balance: -(api.Subsidy - 300)}
	for i, x := range []struct {
		by   func(c *chain.Chain, b *api.Block)
		want api.Errno
	}{
		{func(c *chain.Chain, b *api.Block) {}, api.OK},
		{func(c *chain.Chain, b *api.Block) { b.Nonce = 9 }, api.OK},
		{func(c *chain.Chain, b *api.Block) { c.Tip[0]++ }, api.ErrPrev},
		{func(c *chain.Chain, b *api.Block) { b.Txs = nil }, api.ErrEmpty},
		{func(c *chain.Chain, b *api.Block) { b.Txs = slices.Repeat(b.Txs, 11)[:31] }, api.ErrMany},
		{func(c *chain.Chain, b *api.Block) { b.Txs[0].Outs = nil }, api.ErrEmpty},
		{func(c *chain.Chain, b *api.Block) { b.Txs = b.Txs[1:] }, api.ErrCoin},
		{func(c *chain.Chain, b *api.Block) { b.Txs[0].Nulls = []api.Key{key(1)} }, api.ErrCoin},
		{func(c *chain.Chain, b *api.Block) { b.Txs[0].Balance = -1 }, api.ErrMoney},
		{func(c *chain.Chain, b *api.Block) { b.Txs[0].Balance = 1 }, api.ErrMoney},
		{func(c *chain.Chain, b *api.Block) { b.Txs[0].Outs = outs(-1) }, api.ErrMoney},
		{func(c *chain.Chain, b *api.Block) { b.Txs[0].Ins = append(b.Txs[0].Ins, api.Point{Tx: key(1)}) }, api.ErrCoin},
		// A coinbase may be at its expiry, and behind it no more; its index says nothing.
		{func(c *chain.Chain, b *api.Block) { b.Txs[0].Expiry = 6 }, api.OK},
		{func(c *chain.Chain, b *api.Block) { b.Txs[0].Expiry = 5 }, api.ErrExpiry},
		{func(c *chain.Chain, b *api.Block) { b.Txs[0].Expiry = 1 << 30 }, api.OK},
		{func(c *chain.Chain, b *api.Block) { b.Txs[0].Ins[0].Index = 600 }, api.OK},
		{func(c *chain.Chain, b *api.Block) { c.Height, b.Txs[0].Expiry = math.MaxUint32-1, math.MaxUint32 }, api.OK},
		{func(c *chain.Chain, b *api.Block) { c.Height, b.Txs[0].Expiry = math.MaxUint32-1, math.MaxUint32-1 }, api.ErrExpiry},
		// The claim.
		{func(c *chain.Chain, b *api.Block) { b.Txs[0].Outs = outs(api.Subsidy, 1000) }, api.OK},
		{func(c *chain.Chain, b *api.Block) { b.Txs[0].Outs = outs(api.Subsidy, 999) }, api.ErrClaim},
		{func(c *chain.Chain, b *api.Block) { b.Txs[0].Outs = outs(api.Subsidy, 1001) }, api.ErrClaim},
		{func(c *chain.Chain, b *api.Block) { b.Txs[0].Outs = outs(0) }, api.ErrClaim},
		{func(c *chain.Chain, b *api.Block) { b.Txs[0].Outs = outs(api.Max) }, api.ErrClaim},
		{func(c *chain.Chain, b *api.Block) { shielded(b, api.Subsidy-1000, -2000) }, api.OK},
		{func(c *chain.Chain, b *api.Block) { shielded(b, 0, -api.Subsidy-1000) }, api.OK},
		{func(c *chain.Chain, b *api.Block) { shielded(b, api.Subsidy-1000, -1999) }, api.ErrClaim},
		{func(c *chain.Chain, b *api.Block) { shielded(b, api.Subsidy-1000, -2001) }, api.ErrClaim},
		{func(c *chain.Chain, b *api.Block) { shielded(b, api.Max, -1) }, api.ErrClaim},
		// What is in secret, and what comes there.
		{func(c *chain.Chain, b *api.Block) { c.Pool = api.Max - (api.Subsidy - 300) }, api.OK},
		{func(c *chain.Chain, b *api.Block) { c.Pool = api.Max - (api.Subsidy - 300) + 1 }, api.ErrPool},
		{func(c *chain.Chain, b *api.Block) {
			c.Pool = api.Max - (api.Subsidy - 300)
			shielded(b, api.Subsidy+999, -1)
		}, api.ErrPool},
		{func(c *chain.Chain, b *api.Block) { shielded(b, 0, -api.Max) }, api.ErrPool},
		{func(c *chain.Chain, b *api.Block) { c.Pool = math.MinInt64 }, api.ErrPool},
		// The tree, and its root.
		{func(c *chain.Chain, b *api.Block) { b.Root[31]++ }, api.ErrRoot},
		{func(c *chain.Chain, b *api.Block) { c.Tree = tree.Of([]api.Key{key(1)}) }, api.ErrRoot},
		{func(c *chain.Chain, b *api.Block) { b.Txs[2].Expiry = 5 }, api.ErrExpiry},
	} {
		c := plain(c0)
		b := plain(next(t, c, 1000, p, q))
		x.by(&c, &b)
		d, e := chain.Connect(c, b, goods(b.Txs...))
		if e != x.want {
			t.Error(i, e, "want", x.want)
		}
		if e != api.OK && !same(d, chain.Chain{}) {
			t.Error(i, "something beside an error")
		}
	}
}

// shielded sets what the coinbase's out is worth, and its balance; the note that it makes is none that the root does not have.
func shielded(b *api.Block, value, balance int64) {
	b.Txs[0].Outs, b.Txs[0].Balance = outs(value), balance
	b.Txs[0].Notes = b.Txs[2].Notes[:1:1]
	b.Txs[2].Notes = b.Txs[2].Notes[1:]
}

func TestHeightRound(t *testing.T) {
	c := chain.Genesis()
	c.Height = math.MaxUint32
	d := connected(t, c, next(t, c, 0))
	if d.Height != 0 || d.Coins[0].Height != 0 || len(d.Past) != 1 || d.Past[0].Before.Height != math.MaxUint32 {
		t.Error(d.Height)
	}
}

// TestFull: a tree that is full takes blocks without notes.
func TestFull(t *testing.T) {
	c := grown(t, 5)
	c.Tree.Count = math.MaxUint32 - 1
	q := api.Tx{Ins: []api.Point{coinOf(t, c, 2)}, Notes: []api.Key{key(5)}, Balance: -api.Subsidy}
	c = connected(t, c, next(t, c, 0, q))
	if c.Tree.Count != math.MaxUint32 {
		t.Error(c.Tree.Count)
	}
	c = connected(t, c, next(t, c, 0))
	r := api.Tx{Ins: []api.Point{coinOf(t, c, 3)}, Notes: []api.Key{key(6)}, Balance: -api.Subsidy}
	b := next(t, c, 0)
	b.Txs = append(b.Txs, r)
	if _, e := chain.Connect(c, b, goods(r)); e != api.ErrFull {
		t.Error(e)
	}
}

// TestSize: a block has 20000 bytes at the most; all sizes there are one above a number by 4.
func TestSize(t *testing.T) {
	c := grown(t, 5)
	root, _ := anchor.Last(c.Ring)
	pay := api.Tx{Ins: []api.Point{coinOf(t, c, 1)}, Outs: outs(api.Subsidy)}
	secret := func(at byte, notes int) api.Tx {
		x := api.Tx{Anchor: root}
		for i := range 40 {
			x.Nulls = append(x.Nulls, key(at, byte(i)))
		}
		for i := range notes {
			x.Notes = append(x.Notes, key(at, byte(i)))
		}
		return x
	}
	l := []api.Tx{pay}
	for i := range 8 {
		l = append(l, secret(byte(1+i), 35+i%2))
	}
	l[8].Notes = append(l[8].Notes, key(1))
	b := next(t, c, 0, l...)
	if s, _ := block.Encode(b); len(s) != 19997 {
		t.Fatal(len(s))
	}
	if _, e := chain.Connect(c, b, goods(l...)); e != api.OK {
		t.Error(e)
	}
	l[0].Ins = append(l[0].Ins, coinOf(t, c, 2))
	l[0].Outs = outs(2 * api.Subsidy)
	l[8].Notes = l[8].Notes[1:]
	b = next(t, c, 0, l...)
	if s, _ := block.Encode(b); len(s) != 20001 {
		t.Fatal(len(s))
	}
	if _, e := chain.Connect(c, b, goods(l...)); e != api.ErrMany {
		t.Error(e)
	}
}

// TestSigs: a block has 60 signatures at the most, for which coinbases do not count; and 30 transactions.
func TestSigs(t *testing.T) {
	c := grown(t, 5)
	for i := range 61 {
		c.Coins = append(c.Coins, coins.Coin{At: api.Point{Tx: key(255, 255), Index: uint32(i)}, Out: api.Out{Value: 2}})
	}
	spend := func(n int) api.Tx {
		var x api.Tx
		for range n {
			x.Ins = append(x.Ins, c.Coins[len(c.Coins)-1].At)
			c.Coins = c.Coins[:len(c.Coins)-1]
		}
		x.Outs = outs(int64(2 * n))
		return x
	}
	all := slices.Clone(c.Coins)
	for _, x := range []struct {
		l    []int
		want api.Errno
	}{{[]int{40, 20}, api.OK}, {[]int{30, 29}, api.OK}, {[]int{40, 21}, api.ErrMany}, {slices.Repeat([]int{2}, 29), api.OK}, {slices.Repeat([]int{1}, 30), api.ErrMany}} {
		c.Coins = slices.Clone(all)
		var l []api.Tx
		for _, n := range x.l {
			l = append(l, spend(n))
		}
		c.Coins = slices.Clone(all)
		if _, e := chain.Connect(c, next(t, c, 0, l...), goods(l...)); e != x.want {
			t.Error(x.l, e)
		}
	}
}

// TestMaturity: a coinbase can be spent three blocks behind it.
func TestMaturity(t *testing.T) {
	c := grown(t, 4)
	for height, want := range map[uint32]api.Errno{1: api.OK, 2: api.OK, 3: api.ErrInput, 4: api.ErrInput} {
		x := api.Tx{Ins: []api.Point{coinOf(t, c, height)}, Outs: outs(api.Subsidy)}
		if _, e := chain.Connect(c, next(t, c, 0, x), goods(x)); e != want {
			t.Error(height, e)
		}
	}
}

// TestAnchors: the root behind a block is an anchor for four blocks, and none for the block itself.
func TestAnchors(t *testing.T) {
	c := grown(t, 5)
	note := func(c chain.Chain, b byte) chain.Chain {
		x := api.Tx{Ins: []api.Point{coinOf(t, c, c.Height-3)}, Notes: []api.Key{key(b)}, Balance: -api.Subsidy}
		return connected(t, c, next(t, c, 0, x))
	}
	c = note(c, 1)
	root := tree.Root(c.Tree)
	x := api.Tx{Nulls: []api.Key{key(9)}, Anchor: root, Outs: outs(5), Balance: 5}
	for i := range 6 {
		want := api.OK
		if i > 3 {
			want = api.ErrAnchor
		}
		if _, e := chain.Connect(c, next(t, c, 0, x), goods(x)); e != want {
			t.Error(i, e)
		}
		c = note(c, byte(2+i))
	}
	y := api.Tx{Nulls: []api.Key{key(9)}, Notes: []api.Key{key(77)}}
	b := next(t, c, 0, y)
	b.Txs[1].Anchor = b.Root
	if _, e := chain.Connect(c, b, goods(b.Txs[1])); e != api.ErrAnchor {
		t.Error(e)
	}
}

// odd is a chain whose Past is what no chain's is: long, and with a past ahead of each of its blocks.
func odd(t *testing.T) chain.Chain {
	t.Helper()
	c := grown(t, 6)
	c.Past = append(slices.Clone(c.Past), c.Past...)
	for i := range c.Past {
		c.Past[i].Before.Past = []chain.Step{{Block: api.Block{Nonce: uint32(i), Txs: []api.Tx{full()}}}}
	}
	return plain(c)
}

func TestOddPast(t *testing.T) {
	c := odd(t)
	b := next(t, c, 0)
	d := connected(t, c, b)
	bare := c
	bare.Past = nil
	if !same(d.Past, append(slices.Clone(c.Past[5:]), chain.Step{Block: b, Before: bare})) {
		t.Error("the last four, as they were")
	}
	low, gone, e := chain.Back(c)
	want := c.Past[7].Before
	want.Past = c.Past[:7]
	if e != api.OK || !same(low, want) || !same(gone, c.Past[7].Block) {
		t.Error(e)
	}
}

func TestBack(t *testing.T) {
	c := chain.Genesis()
	all := []chain.Chain{c}
	var bs []api.Block
	for range 7 {
		b := next(t, c, 0)
		c = connected(t, c, b)
		all, bs = append(all, c), append(bs, b)
	}
	for n := 7; n > 3; n-- {
		want := all[n-1]
		want.Past = all[7].Past[:n-4]
		low, b, e := chain.Back(c)
		if e != api.OK || !same(low, want) || !same(b, bs[n-1]) {
			t.Error(n, e)
		}
		c = low
	}
	for _, c := range []chain.Chain{c, chain.Genesis(), {}} {
		if low, b, e := chain.Back(c); e != api.ErrDeep || !same(low, chain.Chain{}) || !same(b, api.Block{}) {
			t.Error(e)
		}
	}
}

func TestReorg(t *testing.T) {
	c := grown(t, 3)
	low := c
	var bs []api.Block
	for range 4 {
		b := next(t, c, 0)
		c = connected(t, c, b)
		bs = append(bs, b)
	}
	others := func(c chain.Chain, n int) ([]api.Block, chain.Chain) {
		var l []api.Block
		for i := range n {
			b := next(t, c, 0)
			b.Nonce = uint32(100 + i)
			c = connected(t, c, b)
			l = append(l, b)
		}
		return l, c
	}
	l, want := others(low, 6)
	for n := range 7 {
		d, gone, e := chain.Reorg(c, 4, l[:n], nil)
		if e != api.OK || !same(gone, bs) {
			t.Error(n, e, len(gone))
		}
		if n == 6 && !same(d, want) {
			t.Error("not as if they had been connected at once")
		}
		if d.Height != uint32(3+n) || len(d.Past) != min(n, 4) {
			t.Error(n, d.Height, len(d.Past))
		}
	}
	if d, gone, e := chain.Reorg(c, 0, nil, nil); e != api.OK || !same(d, c) || len(gone) != 0 {
		t.Error(e)
	}
	on, all := others(c, 2)
	if d, gone, e := chain.Reorg(c, 0, on, nil); e != api.OK || !same(d, all) || len(gone) != 0 {
		t.Error(e)
	}
	if d, gone, e := chain.Reorg(c, 2, nil, nil); e != api.OK || d.Height != 5 || d.Tip != bs[2].Prev || !same(gone, bs[2:]) {
		t.Error(e)
	}
	for i, x := range []struct {
		depth int
		bs    []api.Block
		want  api.Errno
	}{
		{-1, nil, api.ErrArg}, {math.MinInt, l, api.ErrArg}, {-1, []api.Block{{}}, api.ErrArg},
		{5, nil, api.ErrDeep}, {5, l, api.ErrDeep}, {math.MaxInt, l, api.ErrDeep}, {6, []api.Block{{Prev: key(1)}}, api.ErrDeep},
		{4, []api.Block{l[0], l[0]}, api.ErrPrev}, {4, l[1:], api.ErrPrev}, {3, l, api.ErrPrev}, {0, l, api.ErrPrev},
		{4, []api.Block{l[0], {Prev: l[1].Prev}}, api.ErrEmpty},
		{4, []api.Block{{Prev: low.Tip}, {Prev: key(1)}}, api.ErrEmpty},
	} {
		d, gone, e := chain.Reorg(c, x.depth, x.bs, nil)
		if e != x.want || !same(d, chain.Chain{}) || len(gone) != 0 {
			t.Error(i, e, len(gone))
		}
	}
	if _, _, e := chain.Reorg(chain.Genesis(), 1, nil, nil); e != api.ErrDeep {
		t.Error(e)
	}
}

func TestMemory(t *testing.T) {
	c := grown(t, 6)
	p := api.Tx{Ins: []api.Point{coinOf(t, c, 1)}, Notes: []api.Key{key(5)}, Balance: -api.Subsidy}
	b := next(t, c, 0, p)
	connect := func(a []any) []any {
		d, e := chain.Connect(a[0].(chain.Chain), a[1].(api.Block), a[2].([]oracle.Verdict))
		return []any{d, e}
	}
	back := func(a []any) []any {
		d, b, e := chain.Back(a[0].(chain.Chain))
		return []any{d, b, e}
	}
	reorg := func(a []any) []any {
		d, l, e := chain.Reorg(a[0].(chain.Chain), a[1].(int), a[2].([]api.Block), a[3].([]oracle.Verdict))
		return []any{d, l, e}
	}
	d := connected(t, c, b)
	bad := plain(b)
	bad.Root[0]++
	u := next(t, d, 0)
	for _, x := range []chain.Chain{c, odd(t)} {
		x.Tip, x.Coins = c.Tip, c.Coins
		kept(t, "Connect", []any{x, b, goods(p)}, connect)
		kept(t, "Connect", []any{x, bad, goods(p)}, connect)
		kept(t, "Back", []any{x}, back)
		kept(t, "Reorg", []any{x, 0, []api.Block(nil), goods(p)}, reorg)
		kept(t, "Reorg", []any{x, 3, []api.Block(nil), goods(p)}, reorg)
	}
	kept(t, "Reorg", []any{c, 0, []api.Block{b, u}, goods(p)}, reorg)
	kept(t, "Reorg", []any{d, 1, []api.Block{b, u}, goods(p)}, reorg)
	kept(t, "Reorg", []any{d, 1, []api.Block{bad, u}, goods(p)}, reorg)
	kept(t, "Back", []any{chain.Genesis()}, back)
}

// walker grows chains by chance, of blocks that may be.
type walker struct {
	t    *testing.T
	r    *rand.Rand
	name byte // of nullifiers and notes, so that none is told twice
	n    int
}

func (w *walker) fresh() api.Key {
	w.n++
	return key(w.name, byte(w.n>>8), byte(w.n))
}

// spend is a transaction by chance that can be added to k, and what is left of k then.
func (w *walker) spend(c chain.Chain, k chain.Work) (api.Tx, bool) {
	var x api.Tx
	var in int64
	for _, y := range k.Coins {
		if coins.Ripe(y, k.Height) && w.r.Intn(4) == 0 && len(x.Ins) < 3 {
			x.Ins = append(x.Ins, y.At)
			in += y.Out.Value
		}
	}
	if w.r.Intn(2) == 0 {
		root, _ := anchor.Last(c.Ring)
		x.Anchor, x.Nulls = root, []api.Key{w.fresh()}
		if k.Pool > 0 && w.r.Intn(2) == 0 {
			x.Balance = 1 + w.r.Int63n(k.Pool)
			in += x.Balance
		}
	}
	in -= w.r.Int63n(1 + in/10)
	if x.Balance == 0 && w.r.Intn(2) == 0 {
		x.Notes = []api.Key{w.fresh(), w.fresh()}
		x.Balance = -w.r.Int63n(1 + in)
		in += x.Balance
	}
	for range w.r.Intn(3) {
		v := w.r.Int63n(1 + in)
		x.Outs = append(x.Outs, outs(v)...)
		in -= v
	}
	return x, len(x.Ins)+len(x.Nulls) > 0 && len(x.Outs)+len(x.Notes) > 0
}

// block is a block by chance that can be connected to c.
func (w *walker) block(c chain.Chain) api.Block {
	k := chain.Start(c)
	var l []api.Tx
	for range w.r.Intn(5) {
		x, is := w.spend(c, k)
		if !is {
			continue
		}
		u, _, e := chain.Add(k, x, goods(x))
		if e != api.OK {
			w.t.Fatal("Add", e)
		}
		k, l = u, append(l, x)
	}
	b := next(w.t, c, k.Fees, l...)
	if w.r.Intn(3) == 0 {
		b.Txs[0].Notes = []api.Key{w.fresh()}
		b.Txs[0].Balance = -w.r.Int63n(b.Txs[0].Outs[0].Value)
		b.Txs[0].Outs[0].Value += b.Txs[0].Balance
		b = rooted(w.t, c, b)
	}
	b.Nonce = uint32(w.name)
	return b
}

// sound is whether all money of c comes to the subsidies of its blocks, and no nullifier and no coin is there twice.
func sound(c chain.Chain) bool {
	all := []int64{c.Pool}
	for i, x := range c.Coins {
		all = append(all, x.Out.Value)
		if i > 0 && !coins.Less(c.Coins[i-1].At, x.At) {
			return false
		}
	}
	for i := range c.Nulls {
		if i > 0 && string(c.Nulls[i-1][:]) >= string(c.Nulls[i][:]) {
			return false
		}
	}
	s, e := money.Sum(all)
	return e == api.OK && s == int64(c.Height)*api.Subsidy
}

// without is c without its Past.
func without(c chain.Chain) chain.Chain {
	c.Past = nil
	return c
}

// TestFollows: what was connected is taken back as it was; behind a reorg the chain is as if its blocks had been connected at once; money is neither made nor lost.
func TestFollows(t *testing.T) {
	for seed := range int64(12) {
		w := &walker{t: t, r: rand.New(rand.NewSource(seed)), name: 1}
		other := &walker{t: t, r: rand.New(rand.NewSource(seed + 100)), name: 2}
		c := chain.Genesis()
		var bs []api.Block
		for range 25 {
			b := w.block(c)
			d := connected(t, c, b)
			if !sound(d) {
				t.Fatal(seed, "money, or something twice")
			}
			low, gone, e := chain.Back(d)
			if e != api.OK || !same(without(low), without(c)) || !same(gone, b) {
				t.Fatal(seed, "taken back as another one", e)
			}
			if !same(low.Past, c.Past[max(0, len(c.Past)-3):]) {
				t.Fatal(seed, "Past")
			}
			c, bs = d, append(bs, b)
			w.reorg(c, bs, other)
		}
	}
}

// reorg takes some blocks of c, which are the last of bs, back, and connects some others.
func (w *walker) reorg(c chain.Chain, bs []api.Block, other *walker) {
	depth := w.r.Intn(min(4, len(bs)) + 1)
	low := chain.Genesis()
	for _, b := range bs[:len(bs)-depth] {
		low = connected(w.t, low, b)
	}
	var l []api.Block
	var v []oracle.Verdict
	for range w.r.Intn(4) {
		b := other.block(low)
		low, l, v = connected(w.t, low, b), append(l, b), append(v, goods(b.Txs...)...)
	}
	d, gone, e := chain.Reorg(c, depth, l, v)
	if e != api.OK || !same(without(d), without(low)) || !same(gone, bs[len(bs)-depth:]) {
		w.t.Fatal("reorg", depth, len(l), e)
	}
	if len(d.Past) > len(low.Past) || !same(d.Past, low.Past[len(low.Past)-len(d.Past):]) {
		w.t.Fatal("Past")
	}
}
