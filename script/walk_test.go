package script_test

import (
	"encoding/binary"
	"encoding/hex"
	"fmt"
	"math/rand"
	"regexp"
	"slices"
	"strconv"
	"strings"
	"testing"

	"thurible/api"
	"thurible/block"
	"thurible/chain"
	"thurible/node"
	"thurible/oracle"
	"thurible/pool"
	"thurible/script"
	"thurible/template"
	"thurible/tx"
)

// numbered is the key whose first eight bytes are n.
func numbered(n uint64) (k api.Key) {
	binary.LittleEndian.PutUint64(k[:], n)
	return k
}

// short is how an Id is said.
func short(k api.Key) string {
	return hex.EncodeToString(k[:8])
}

// goods is verdicts that all of l is good.
func goods(l ...api.Tx) []oracle.Verdict {
	var v []oracle.Verdict
	for _, x := range l {
		k, _ := tx.Id(x)
		for i := range len(x.Ins) + len(x.Nulls) + len(x.Notes) {
			v = append(v, oracle.Verdict{Tx: k, Item: i, Good: true})
		}
	}
	return v
}

// model is a node that does as the document says.
type model struct{ n node.Node }

// view is the work of the next block with all that waits.
func (m *model) view() chain.Work {
	v := chain.Start(m.n.C)
	for _, x := range m.n.P.L {
		u, _, e := chain.Add(v, x.T, goods(x.T))
		if e != api.OK {
			panic("a pool that may not be")
		}
		v = u
	}
	return v
}

// mined is the block of a nonce behind c, of what waits.
func mined(c chain.Chain, p pool.Pool, nonce uint64, draws []uint64) api.Block {
	b, e := template.Build(c, p, numbered(nonce), uint32(nonce%(1<<32)), draws)
	if e != api.OK {
		panic("no template")
	}
	return b
}

// bytes is a block's.
func bytes(b api.Block) string {
	s, e := block.Encode(b)
	if e != api.OK {
		panic("no bytes")
	}
	return s
}

func (m *model) mine(a []uint64) string {
	b := mined(m.n.C, m.n.P, a[0], a[1:])
	n, e := node.Connect(m.n, bytes(b), goods(b.Txs...))
	if e != api.OK {
		return fmt.Sprint("error ", int(e))
	}
	m.n = n
	return fmt.Sprint("height ", n.C.Height, " ", len(b.Txs))
}

// submit hands a transaction in, by its bytes.
func (m *model) submit(x api.Tx) string {
	s, e := tx.Encode(x)
	if e != api.OK {
		return fmt.Sprint("error ", int(e))
	}
	n, gone, e := node.Submit(m.n, s, goods(x), []uint64{0, 0, 0})
	if e != api.OK {
		return fmt.Sprint("error ", int(e))
	}
	m.n = n
	k, _ := tx.Id(x)
	reply := "id " + short(k)
	for _, k := range gone {
		reply += " " + short(k)
	}
	return reply
}

func (m *model) spend(a []uint64) string {
	l := m.view().Coins
	if len(l) == 0 {
		return "error 3"
	}
	c := l[a[0]%uint64(len(l))]
	left := c.Out.Value - min(c.Out.Value, int64(a[1]))
	x := api.Tx{Ins: []api.Point{c.At}}
	if len(a) > 2 {
		x.Notes, x.Balance = []api.Key{numbered(a[2])}, -left
	} else {
		x.Outs = []api.Out{{Value: left}}
	}
	return m.submit(x)
}

func (m *model) unshield(a []uint64) string {
	l := m.n.C.Ring.L
	return m.submit(api.Tx{
		Outs:    []api.Out{{Value: int64(a[1])}},
		Anchor:  l[len(l)-1],
		Nulls:   []api.Key{numbered(a[0])},
		Balance: int64(a[1]) + int64(a[2]),
	})
}

func (m *model) reorg(a []uint64) string {
	depth, many := min(a[0], 100), min(a[1], 20)
	c := m.n.C
	for range depth {
		low, _, e := chain.Back(c)
		if e == api.OK {
			c = low
		}
	}
	var bs []string
	for i := range many {
		b := mined(c, pool.Pool{}, 1000+i, nil)
		d, e := chain.Connect(c, b, nil)
		if e != api.OK {
			panic("no branch")
		}
		c, bs = d, append(bs, bytes(b))
	}
	n, _, e := node.Reorg(m.n, int(depth), bs, nil, nil)
	if e != api.OK {
		return fmt.Sprint("error ", int(e))
	}
	m.n = n
	return fmt.Sprint("height ", n.C.Height)
}

func (m *model) tick(a []uint64) string {
	m.n = node.Tick(m.n, a[0])
	return fmt.Sprint("now ", m.n.P.Now)
}

func (m *model) status([]uint64) string {
	n := m.n
	return fmt.Sprintf("%d %d %d %d %d", n.C.Height, len(n.P.L), pool.Total(n.P), n.C.Pool, len(n.P.R))
}

// answer is the reply to a line, if it has a word, and is no remark.
func (m *model) answer(line string) (string, bool) {
	s := strings.Join(regexp.MustCompile(`[^\t\r ]+`).FindAllString(line, -1), " ")
	if s == "" || s[0] == '#' {
		return "", false
	}
	for _, l := range []struct {
		form string
		does func([]uint64) string
	}{
		{`mine( N)+`, m.mine},
		{`spend N N`, m.spend},
		{`shield N N N`, m.spend},
		{`unshield N N N`, m.unshield},
		{`reorg N N`, m.reorg},
		{`tick N`, m.tick},
		{`status`, m.status},
	} {
		form := "^(" + strings.ReplaceAll(l.form, "N", "[0-9]{1,15}") + ")$"
		if !regexp.MustCompile(form).MatchString(s) {
			continue
		}
		var a []uint64
		for _, w := range strings.Split(s, " ")[1:] {
			n, _ := strconv.ParseUint(w, 10, 64)
			a = append(a, n)
		}
		return l.does(a), true
	}
	return "error 220", true
}

// answers is the replies to the lines of s, as the document says it.
func answers(s string) []string {
	m := &model{node.New()}
	var l []string
	for s != "" {
		line, rest, _ := strings.Cut(s, "\n")
		if reply, is := m.answer(line); is {
			l = append(l, reply)
		}
		m.right()
		s = rest
	}
	return l
}

// right panics unless all that holds of a node holds: no nullifier is there twice, and all money is the subsidies.
func (m *model) right() {
	all := slices.Clone(m.n.C.Nulls)
	for _, x := range m.n.P.L {
		all = append(all, x.T.Nulls...)
	}
	seen := map[api.Key]bool{}
	for _, k := range all {
		if seen[k] {
			panic("a nullifier is spent twice")
		}
		seen[k] = true
	}
	money := m.n.C.Pool
	for _, c := range m.n.C.Coins {
		money += c.Out.Value
	}
	if money != 5000000*int64(m.n.C.Height) || pool.Total(m.n.P) > 24000 {
		panic("money, or the pool, is out of bounds")
	}
	m.view()
}

// chance makes lines by chance.
type chance struct{ *rand.Rand }

// of is one of l.
func (r chance) of(l ...string) string {
	return l[r.Intn(len(l))]
}

// n is a number below n, as a text.
func (r chance) n(n int) string {
	return strconv.Itoa(r.Intn(n))
}

// pays is what a line pays.
func (r chance) pays() string {
	return r.of("0", "1", "4999", "5000", "9999", "10000", "20000", "40000", "4996000", "5000000", "5000001", "999999999999999", r.n(30000))
}

// line is a line by chance, with a line's end or none.
func (r chance) line() string {
	switch k := r.Intn(100); {
	case k < 12:
		s := "mine " + r.of(r.n(5), r.n(9999), "4294967296", "999999999999999")
		for range r.Intn(4) {
			s += " " + r.of(r.n(9), r.n(99999), "999999999999999")
		}
		return s
	case k < 45:
		return "spend " + r.of(r.n(40), "999999999999999") + " " + r.pays()
	case k < 60:
		return "shield " + r.n(40) + " " + r.pays() + " " + r.n(9)
	case k < 78:
		return "unshield " + r.n(25) + " " + r.of("0", "0", "1", "4000", r.n(5000000), r.n(9000000)) + " " + r.of("0", r.pays())
	case k < 86:
		return "reorg " + r.of(r.n(5), r.n(5), r.n(5), "100", "101") + " " + r.of(r.n(5), r.n(5), r.n(5), r.of("19", "20", "21", "999999999999999"))
	case k < 90:
		return "tick " + r.of(r.n(70), "59", "60", "999999999999999")
	case k < 96:
		return "status"
	}
	return r.of("", "#", "# mine 1", "mine", "spend 1", "shield 1 1", "unshield 1 1 1 1", "reorg 1", "tick -1", "jump", "status 0", "tick 1000000000000000", "\r", "mine 1 x")
}

// text is so many lines by chance, behind some blocks.
func (r chance) text(n int) string {
	s := ""
	for i := range r.Intn(9) {
		s += fmt.Sprintln("mine", i)
	}
	for range n {
		s += strings.ReplaceAll(r.line(), " ", r.of(" ", " ", "\t", " \r ")) + "\n"
	}
	return s
}

// bare is the words of a reply without those that differ from node to node: a number is left of an error alone.
func bare(reply string) string {
	w := strings.Fields(reply)
	if w[0] == "error" {
		return reply
	}
	if w[0] == "id" {
		return fmt.Sprint("id ", min(3, len(w)-2))
	}
	if len(w) == 5 {
		return "status"
	}
	return w[0]
}

// P22.2, P22.3: lines by chance have the replies that the document's words come to; those to the first lines are the first ones; a line that is an error changes nothing; Run tells the same.
func TestWalk(t *testing.T) {
	told := map[string]int{}
	for seed := range int64(60) {
		r := chance{rand.New(rand.NewSource(seed))}
		s := r.text(60)
		got, want := script.Lines(s), answers(s)
		if !slices.Equal(got, want) {
			t.Fatalf("%q\n%q\n%q", s, got, want)
		}
		if run := script.Run(s); run != strings.Join(want, "\n")+"\n" {
			t.Fatalf("%q: %q", s, run)
		}
		for _, reply := range got {
			told[bare(reply)]++
		}
		lines := strings.SplitAfter(s, "\n")
		n := r.Intn(len(lines))
		head := strings.Join(lines[:n], "")
		if l := script.Lines(head); !slices.Equal(l, got[:len(l)]) || len(l) != len(answers(head)) {
			t.Fatalf("%q: %q", head, l)
		}
		goodLines(t, lines, got)
	}
	for _, reply := range []string{"id 0", "id 1", "id 2", "id 3", "height", "now", "status", "error 3", "error 4", "error 160", "error 161", "error 166", "error 167", "error 180", "error 190", "error 220"} {
		if told[reply] == 0 {
			t.Error("never told", reply, told)
		}
	}
}

// goodLines holds that the lines but those that are errors have the same replies, but for these.
func goodLines(t *testing.T, lines, replies []string) {
	t.Helper()
	s := ""
	var want []string
	for _, line := range lines {
		if w := strings.TrimSpace(line); w == "" || w[0] == '#' {
			continue
		}
		if !strings.HasPrefix(replies[0], "error ") {
			s, want = s+line, append(want, replies[0])
		}
		replies = replies[1:]
	}
	if l := script.Lines(s); !slices.Equal(l, want) {
		t.Fatalf("%q\n%q\n%q", s, l, want)
	}
}
