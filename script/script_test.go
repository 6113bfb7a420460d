package script_test

import (
	"fmt"
	"regexp"
	"slices"
	"strconv"
	"strings"
	"testing"

	"thurible/api"
	"thurible/script"
	"thurible/sha"
	"thurible/tree"
	"thurible/tx"
)

// texts is all texts of up to n of these letters.
func texts(letters []string, n int) []string {
	all := []string{""}
	last := all
	for range n {
		var l []string
		for _, s := range last {
			for _, x := range letters {
				l = append(l, s+x)
			}
		}
		all, last = append(all, l...), l
	}
	return all
}

// P22.1: digits, and what is beside them; 15 of them, and one more; what other numbers are written by.
func TestNumber(t *testing.T) {
	l := texts([]string{"0", "1", "9", "/", ":", "-", "+", "_", ".", "x", "a", " ", "\n", "\x00", "\xb2"}, 3)
	for n := range 40 {
		for _, x := range []string{"0", "1", "9", "12345678"} {
			s := strings.Repeat(x, 40)[:n]
			l = append(l, s, s+"x", "x"+s, s+" ", "-"+s)
		}
	}
	l = append(l, "0x1", "1e3", "٣", "１", "²", "000000000000000", "000000000000001", "0000000000000001", "999999999999999", "1000000000000000", "18446744073709551617", strings.Repeat("9", 5000))
	form := regexp.MustCompile(`\A[0-9]{1,15}\z`)
	for _, s := range l {
		want := int64(0)
		if form.MatchString(s) {
			want, _ = strconv.ParseInt(s, 10, 64)
		}
		if n, is := script.Number(s); n != want || is != form.MatchString(s) {
			t.Errorf("%q: %d %v", s, n, is)
		}
	}
}

// holds fails unless the lines have these replies.
func holds(t *testing.T, s string, want ...string) {
	t.Helper()
	if got := script.Lines(s); !slices.Equal(got, want) {
		t.Errorf("%q: %q, not %q", s, got, want)
	}
	text := ""
	for _, reply := range want {
		text += reply + "\n"
	}
	if got := script.Run(s); got != text {
		t.Errorf("Run %q: %q, not %q", s, got, text)
	}
}

// P22.2: which lines have a reply.
func TestLines(t *testing.T) {
	holds(t, "")
	holds(t, "\n")
	holds(t, "\n\n \n\t\n\r\n \t\r ")
	holds(t, "#\n#tick 1\n  # tick 1\n\t#\r\n##\n#\x00")
	holds(t, "tick 1", "now 1")
	holds(t, "tick 1\n", "now 1")
	holds(t, "\ntick 1\n\n\n", "now 1")
	holds(t, "tick 1\ntick 2", "now 1", "now 3")
	holds(t, "tick 1\r\ntick 2\r\n", "now 1", "now 3")
	holds(t, " \t\rtick\t \r1\r\t ", "now 1")
	holds(t, "tick 1\rtick 2", "error 220")
	holds(t, "tick 1 #", "error 220")
	holds(t, "tick #1", "error 220")
	holds(t, "tick\n1", "error 220", "error 220")
	holds(t, "x#\ntick 4\n#\ntick 5", "error 220", "now 4", "now 9")
}

// P22.2: each byte as a blank, and as a line.
func TestBytes(t *testing.T) {
	for i := range 256 {
		b := string([]byte{byte(i)})
		want, alone := []string{"error 220", "now 2"}, []string{"error 220"}
		switch b {
		case "\t", "\r", " ":
			want[0], alone = "now 1", nil
			want[1] = "now 3"
		case "\n":
			want, alone = []string{"error 220", "error 220", "now 2"}, nil
		case "#":
			alone = nil
		}
		holds(t, "tick"+b+"1\ntick 2", want...)
		holds(t, b, alone...)
	}
	for _, blank := range []string{"\u00a0", "\u0085", "\u2003", "\u3000", "\ufeff"} {
		holds(t, "tick"+blank+"1", "error 220")
		holds(t, blank, "error 220")
	}
	holds(t, "tick \xe2 1\n\xe2 \x80\n\xe2\ntick\t1", "error 220", "error 220", "error 220", "now 1")
}

// P22.2: lines that are none, by their words, also where their numbers would be an error, too; they change nothing.
func TestNone(t *testing.T) {
	var l []string
	for line, most := range map[string]int{"spend": 2, "shield": 3, "unshield": 3, "reorg": 2, "tick": 1, "status": 0, "mine": 0} {
		for n := range 6 {
			s := line + strings.Repeat(" 1", n)
			if n != most && (line != "mine" || n < 1) {
				l = append(l, s)
			}
			if n == 0 {
				continue
			}
			for _, x := range []string{"x", "-1", "+1", "1000000000000000", "1.", "0x1"} {
				l = append(l, s[:len(s)-1]+x, line+" "+x+s[len(line)+2:])
			}
		}
	}
	l = append(l, "mine", "Mine 1", "MINE 1", "min 1", "mines 1", "jump", "1", "status status", "spend shield 1", "\"tick\" 1", "tick1", "error 220")
	for _, line := range l {
		holds(t, line+"\nstatus\ntick 0", "error 220", "0 0 0 0 0", "now 0")
	}
}

// P22.2: blocks one by one; all nonces there are, and draws, where nothing is to be picked.
func TestMine(t *testing.T) {
	holds(t, "mine 0\nmine 0\nmine 4294967296\nmine 999999999999999 0 1 999999999999999\nmine 007 8\nstatus",
		"height 1 1", "height 2 1", "height 3 1", "height 4 1", "height 5 1", "5 0 0 0 0")
}

// P22.2: the clock.
func TestTick(t *testing.T) {
	holds(t, "tick 0\ntick 999999999999999\ntick 999999999999999\nmine 1\ntick 1\nreorg 1 0\ntick 1",
		"now 0", "now 999999999999999", "now 1999999999999998", "height 1 1", "now 1999999999999999", "height 0", "now 2000000000000000")
	n := 18448 // so often the greatest number is above 2^64 - 1
	l := script.Lines(strings.Repeat("tick 999999999999999\n", n))
	if last := l[n-1]; last != "now 18446744073709551615" {
		t.Error(last)
	}
}

// based is the coinbase of a height that a nonce locks, with no fees.
func based(height uint32, nonce uint64) api.Tx {
	return api.Tx{Ins: []api.Point{{Index: height}}, Outs: []api.Out{{Value: 5000000, Lock: numbered(nonce)}}}
}

// named is the reply to a submit of x that evicts nothing.
func named(t *testing.T, x api.Tx) string {
	t.Helper()
	return "id " + short(id(t, x))
}

// id is x's; it has one.
func id(t *testing.T, x api.Tx) api.Key {
	t.Helper()
	k, e := tx.Id(x)
	if e != api.OK {
		t.Fatal("Id", e)
	}
	return k
}

// mines is the lines that mine a block of each nonce, and their replies.
func mines(nonces ...uint64) (string, []string) {
	s := ""
	var l []string
	for i, n := range nonces {
		s, l = s+fmt.Sprintln("mine", n), append(l, fmt.Sprint("height ", i+1, " 1"))
	}
	return s, l
}

// place is the place of the coin of a height among those of the coinbases of these nonces.
func place(t *testing.T, height int, nonces ...uint64) int {
	t.Helper()
	mine := short(id(t, based(uint32(height), nonces[height-1])))
	n := 0
	for i, nonce := range nonces {
		if short(id(t, based(uint32(i+1), nonce))) < mine {
			n++
		}
	}
	return n
}

// P22.2: the one coin that is ripe, by each number that comes to its place; the same transaction as by hand.
func TestSpend(t *testing.T) {
	for _, nonces := range [][]uint64{{1, 2, 3}, {7, 7, 7}, {999999999999999, 4294967296, 0}, {255, 256, 65536}} {
		head, replies := mines(nonces...)
		point := api.Point{Tx: id(t, based(1, nonces[0]))}
		at := place(t, 1, nonces...)
		for i := range 9 {
			for _, pays := range []int64{0, 1, 10000, 4999999, 5000000, 5000001, 999999999999999} {
				left := max(0, 5000000-pays)
				open := api.Tx{Ins: []api.Point{point}, Outs: []api.Out{{Value: left}}}
				note := api.Tx{Ins: []api.Point{point}, Notes: []api.Key{numbered(uint64(300 + i))}, Balance: -left}
				spends, shields := named(t, open), named(t, note)
				after := []string{"3 1 4000 0 0", "height 4 2", "4 0 0 0 0"}
				secret := []string{"3 1 4000 0 0", "height 4 2", fmt.Sprintf("4 0 0 %d 0", left)}
				if i%3 != at {
					// The others are coinbases that are too young.
					spends, shields = "error 160", "error 160"
					after = []string{"3 0 0 0 0", "height 4 1", "4 0 0 0 0"}
					secret = after
				}
				tail := "\nstatus\nmine 5\nstatus"
				holds(t, head+fmt.Sprintf("spend %d %d", i, pays)+tail, slices.Concat(replies, []string{spends}, after)...)
				holds(t, head+fmt.Sprintf("shield %d %d %d", i, pays, 300+i)+tail, slices.Concat(replies, []string{shields}, secret)...)
			}
		}
	}
}

// P22.2: there is no coin at first, nor behind a reorg that takes all blocks back.
func TestNoCoin(t *testing.T) {
	holds(t, "spend 0 0\nshield 0 0 1\nspend 5 9\nstatus", "error 3", "error 3", "error 3", "0 0 0 0 0")
	holds(t, "mine 1\nspend 0 0\nreorg 1 0\nspend 0 0\nshield 3 1 1", "height 1 1", "error 160", "height 0", "error 3", "error 3")
}

// waiting is three blocks, and the first coin spent, in as many steps as there are payments: each spends what the one ahead left.
func waiting(t *testing.T, pays ...int64) (string, []string) {
	t.Helper()
	s, l := mines(1, 2, 3)
	at, value := api.Point{Tx: id(t, based(1, 1))}, int64(5000000)
	for _, n := range pays {
		// The coin stands among those of the second and the third block.
		i := 0
		for h := range uint32(2) {
			if other := id(t, based(h+2, uint64(h+2))); short(other) < short(at.Tx) {
				i++
			}
		}
		value -= n
		x := api.Tx{Ins: []api.Point{at}, Outs: []api.Out{{Value: value}}}
		s, l = s+fmt.Sprintf("spend %d %d\n", i, n), append(l, named(t, x))
		at = api.Point{Tx: id(t, x)}
	}
	return s, l
}

// P22.2: the view has what those make that wait, and has not what they spend; children are mined behind their parents, whichever is drawn first.
func TestView(t *testing.T) {
	for n := range int64(40) {
		head, replies := waiting(t, 10000+n, 10000, 10000, 10000, 10000)
		holds(t, fmt.Sprintf("%sstatus\nmine 4 %d\nstatus\n", head, n), append(replies, "3 5 20000 0 0", "height 4 6", "4 0 0 0 0")...)
	}
}

// root is that of a tree of these notes.
func root(l ...api.Key) api.Key {
	return tree.Root(tree.Of(l))
}

// outOf is what unshield submits by such a root.
func outOf(anchor api.Key, k uint64, n, pays int64) api.Tx {
	return api.Tx{Outs: []api.Out{{Value: n}}, Anchor: anchor, Nulls: []api.Key{numbered(k)}, Balance: n + pays}
}

// P22.2: out of secret by the last root, which notes make another one; as much as there is, and no more.
func TestUnshield(t *testing.T) {
	none, one := root(), root(numbered(7))
	zero := outOf(none, 999999999999999, 0, 0)
	holds(t, "unshield 999999999999999 0 0\nstatus", named(t, zero), "0 1 4000 0 0")
	holds(t, "unshield 1 1 0\nunshield 1 0 1\nunshield 1 999999999999999 999999999999999\nstatus", "error 167", "error 167", "error 167", "0 0 0 0 0")
	head, replies := mines(1, 2, 3)
	head += fmt.Sprintf("shield %d 10000 7\nmine 4\n", place(t, 1, 1, 2, 3))
	note := api.Tx{Ins: []api.Point{{Tx: id(t, based(1, 1))}}, Notes: []api.Key{numbered(7)}, Balance: -4990000}
	replies = append(replies, named(t, note), "height 4 2")
	for _, x := range []struct{ n, pays int64 }{{4980000, 10000}, {0, 4990000}, {4990000, 0}, {3, 5000}} {
		line := fmt.Sprintf("unshield 7 %d %d\nstatus\nmine 5\nstatus\n", x.n, x.pays)
		rest := fmt.Sprintf("5 0 0 %d 0", 4990000-x.n-x.pays)
		holds(t, head+line, append(slices.Clone(replies), named(t, outOf(one, 7, x.n, x.pays)), "4 1 4000 4990000 0", "height 5 2", rest)...)
		more := fmt.Sprintf("unshield 7 %d %d\nunshield 7 %d %d\nstatus", x.n+4990001, x.pays, x.n, x.pays+4990001)
		holds(t, head+more, append(slices.Clone(replies), "error 167", "error 167", "4 0 0 4990000 0")...)
	}
}

// P22.2: errors of a submit, by a nullifier: twice the same, one that fights, one that is spent; the same is twice in the chain, too, as its out is there.
func TestErrors(t *testing.T) {
	x := named(t, outOf(root(), 7, 0, 0))
	holds(t, "unshield 7 0 0\nunshield 7 0 0\nunshield 7 0 1\nunshield 7 5 0\nmine 1\nunshield 7 0 0\nunshield 7 0 1\nunshield 7 5 0\nstatus",
		x, "error 4", "error 190", "error 190", "height 1 2", "error 4", "error 161", "error 161", "1 0 0 0 0")
}

// empties is n transactions that pay nothing, as lines, by rising Ids, and these.
func empties(t *testing.T, n int) ([]string, []string) {
	t.Helper()
	var l [][2]string
	for k := range n {
		x := id(t, outOf(root(), uint64(k), 0, 0))
		l = append(l, [2]string{short(x), fmt.Sprintf("unshield %d 0 0\n", k)})
	}
	slices.SortFunc(l, func(a, b [2]string) int { return strings.Compare(a[0], b[0]) })
	var lines, ids []string
	for _, x := range l {
		ids, lines = append(ids, x[0]), append(lines, x[1])
	}
	return lines, ids
}

// P22.2: who is evicted is told behind the Id, by draws of 0, which fall on the lowest Id; it's refused for a while, and counted till others come.
func TestEvicted(t *testing.T) {
	lines, ids := empties(t, 7)
	var want []string
	s := ""
	for i, k := range ids[:6] {
		s, want = s+lines[i], append(want, "id "+k)
	}
	tail := "status\n" + lines[0] + "tick 59\n" + lines[0] + "tick 1\n" + lines[0] + "status"
	holds(t, s+lines[6]+tail, append(slices.Clone(want), "id "+ids[6]+" "+ids[0], "0 6 24000 0 1", "error 180", "now 59", "error 180", "now 60", "id "+ids[0]+" "+ids[0], "0 6 24000 0 1")...)
	s, want = "", nil
	for i, k := range ids[1:] {
		s, want = s+lines[i+1], append(want, "id "+k)
	}
	holds(t, s+lines[0]+"status\n"+lines[1], append(want, "id "+ids[0]+" "+ids[0], "0 6 24000 0 1", "error 4")...)
}

// P22.2: with an evicted one its descendants go, and are told, too, in the order in which they came.
func TestDescendants(t *testing.T) {
	seen := 0
	for n := range int64(60) {
		head, replies := waiting(t, 10000+n, 0, 0, 0, 0)
		var ids []string
		for _, reply := range replies[3:] {
			ids = append(ids, reply[3:])
		}
		line, k := fmt.Sprintf("unshield %d 0 0\n", n), short(id(t, outOf(root(), uint64(n), 0, 0)))
		other, l := fmt.Sprintf("unshield %d 0 1\nunshield %d 0 0\n", n, n+100), short(id(t, outOf(root(), uint64(n+100), 0, 0)))
		all := append(slices.Clone(ids), k, l)
		low := slices.Index(all, slices.Min(all))
		gone := []string{all[low]}
		if low < len(ids) {
			gone = ids[low:]
		}
		if len(gone) > 1 && len(gone) < 5 {
			seen++
		}
		left := 7 - len(gone)
		holds(t, head+line+other+"status", append(replies, "id "+k, "error 190", "id "+l+" "+strings.Join(gone, " "), fmt.Sprintf("3 %d %d 0 1", left, 4000*left))...)
	}
	if seen == 0 {
		t.Error("never some descendants")
	}
}

// P22.2: the draws tell which one of six is left, of which a block takes five, as they pay nothing.
func TestDraws(t *testing.T) {
	lines, ids := empties(t, 6)
	var want []string
	for _, k := range ids {
		want = append(want, "id "+k)
	}
	for draws, left := range map[string]int{"": 5, " 0 0 0 0 0": 5, " 5 4 3 2 1": 0, " 5": 4, " 6": 5, " 11 9 7 5 3": 0, " 1 1 1 1 1": 0, " 0 1 1 1 1": 1, " 5 4 3": 2, " 5 4 3 2 1 9 9": 0} {
		s, replies := strings.Join(lines, "")+"mine 1"+draws+"\nstatus\n", append(slices.Clone(want), "height 1 6", "1 1 4000 0 0")
		for i, line := range lines {
			s += strings.Replace(line, " 0\n", " 1\n", 1)
			reply := "error 161"
			if i == left {
				reply = "error 190"
			}
			replies = append(replies, reply)
		}
		holds(t, s, replies...)
	}
}

// P22.2: how deep, and how far; what is more is held to 100, and to 20.
func TestReorg(t *testing.T) {
	head, replies := mines(1, 2, 3, 4, 5, 6)
	for n, want := range map[string]int{"0": 0, "1": 1, "19": 19, "20": 20, "21": 20, "100": 20, "999999999999999": 20} {
		for depth := range 5 {
			holds(t, head+fmt.Sprint("reorg ", depth, " ", n, "\nstatus"), append(slices.Clone(replies), fmt.Sprint("height ", 6-depth+want), fmt.Sprint(6-depth+want, " 0 0 0 0"))...)
		}
		for _, depth := range []string{"5", "6", "7", "99", "100", "101", "999999999999999"} {
			holds(t, head+"reorg "+depth+" "+n+"\nstatus", append(slices.Clone(replies), "error 166", "6 0 0 0 0")...)
		}
	}
	holds(t, "reorg 0 0\nreorg 1 0\nreorg 1 5\nreorg 0 5\nreorg 4 0\nreorg 1 0", "height 0", "error 166", "error 166", "height 5", "height 1", "error 166")
}

// P22.2: the coinbases of a reorg are those of the nonces from 1000 on, from the first block that it puts on.
func TestBranch(t *testing.T) {
	for depth := range 3 {
		head, replies := mines(9, 8)
		nonces := append([]uint64{9, 8}[:2-depth], 1000, 1001, 1002, 1003)
		for h := 1; h+3 <= len(nonces)+1; h++ {
			x := api.Tx{Ins: []api.Point{{Tx: id(t, based(uint32(h), nonces[h-1]))}}, Outs: []api.Out{{Value: 4990000}}}
			line := fmt.Sprintf("reorg %d 4\nspend %d 10000", depth, place(t, h, nonces...))
			holds(t, head+line, append(slices.Clone(replies), fmt.Sprint("height ", len(nonces)), named(t, x))...)
		}
	}
}

// P22.2, P22.3: what a reorg takes back waits again, if it is still good; what was evicted by it is counted, and not told.
func TestBack(t *testing.T) {
	head, replies := waiting(t, 10000, 10000)
	holds(t, head+"mine 4\nstatus\nreorg 1 1\nstatus\nmine 5\nstatus\nreorg 3 3\nstatus\nreorg 4 3\nstatus\nreorg 1 0\nstatus\nreorg 1 0\nstatus",
		append(replies, "height 4 3", "4 0 0 0 0", "height 4", "4 2 8000 0 0", "height 5 3", "5 0 0 0 0", "height 5", "5 2 8000 0 0", "height 4", "4 2 8000 0 0", "height 3", "3 2 8000 0 0", "height 2", "2 0 0 0 0")...)
	lines, ids := empties(t, 12)
	s := ""
	var want []string
	for i := range lines {
		s, want = s+lines[i], append(want, "id "+ids[i])
		if i == 5 {
			// One of the first six is left, and waits with five of the others.
			s, want = s+"mine 1\n", append(want, "height 1 6")
		}
		if i == 10 {
			break
		}
	}
	holds(t, s+"status\nreorg 1 1\nstatus", append(want, "1 6 24000 0 0", "height 1", "1 6 24000 0 5")...)
}

// P22.2: an anchor of five blocks ago is none any more, and what waits by it goes.
func TestAnchor(t *testing.T) {
	head, replies := mines(1, 2, 3)
	note := api.Tx{Ins: []api.Point{{Tx: id(t, based(1, 1))}}, Notes: []api.Key{numbered(7)}, Balance: -5000000}
	head, replies = head+fmt.Sprintf("shield %d 0 7\n", place(t, 1, 1, 2, 3)), append(replies, named(t, note))
	lines, ids := empties(t, 5)
	for i := range lines {
		head, replies = head+lines[i], append(replies, "id "+ids[i])
	}
	// All six pay nothing: by draws of 0 the one with the greatest Id is left.
	if note := replies[3][3:]; note > ids[4] {
		t.Fatal("the note would be left")
	}
	one := root(numbered(7))
	holds(t, head+"mine 4\nstatus\nreorg 0 2\nstatus\nreorg 0 1\nstatus\nunshield 99 0 0\nunshield 98 0 0",
		append(replies, "height 4 6", "4 1 4000 5000000 0", "height 6", "6 1 4000 5000000 0", "height 7", "7 0 0 5000000 0",
			named(t, outOf(one, 99, 0, 0)), named(t, outOf(one, 98, 0, 0)))...)
}

// P22.2: a transaction that pays nothing waits with its actions unpaid; five thousand do not leave secret where four went in.
func TestSecret(t *testing.T) {
	head, replies := mines(1, 2, 3)
	head += fmt.Sprintf("shield %d 4996000 7\nunshield 8 4000 0\nmine 4\nunshield 8 5000 0\nunshield 8 4001 0\nunshield 8 4000 1\nunshield 8 4000 0\nstatus", place(t, 1, 1, 2, 3))
	note := api.Tx{Ins: []api.Point{{Tx: id(t, based(1, 1))}}, Notes: []api.Key{numbered(7)}, Balance: -4000}
	holds(t, head, append(replies, named(t, note), "error 167", "height 4 2", "error 167", "error 167", "error 167", named(t, outOf(root(numbered(7)), 8, 4000, 0)), "4 1 4000 4000 0")...)
}

// R5: told twice the same is told; what was told is not changed by what is told behind it.
func TestAgain(t *testing.T) {
	head, replies := waiting(t, 10000, 10000)
	a := script.Lines(head)
	b := script.Lines(head + "mine 5\nreorg 2 3")
	if !slices.Equal(a, replies) || !slices.Equal(a, b[:len(a)]) || !slices.Equal(a, script.Lines(head)) {
		t.Errorf("%q %q %q", a, b, replies)
	}
}

// The coinbase by hand is the one that the others are told from.
func TestBased(t *testing.T) {
	s, e := tx.Encode(based(1, 258))
	want := strings.Repeat("\x00", 4) + "\x01" + strings.Repeat("\x00", 32) + "\x01\x00\x00\x00" + "\x01\x40\x4b\x4c\x00\x00\x00\x00\x00\x02\x01" + strings.Repeat("\x00", 30+1+1+8)
	if e != api.OK || s != want || id(t, based(1, 258)) != sha.Double(want) {
		t.Errorf("%x", s)
	}
}
