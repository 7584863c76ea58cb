package nvram_test

import (
	"encoding/binary"
	"hash/crc32"
	"math"
	"testing"

	"scupper/api"
	"scupper/nvram"
	"scupper/power"
)

// all is all groups, written out.
const all uint32 = 255

// told holds an error's number against the one that is asked for.
func told(t *testing.T, what string, got, want api.Errno) {
	t.Helper()
	if got != want {
		t.Errorf("%s: %d, want %d", what, got, want)
	}
}

// says holds what the words say, as a whole and group by group, against what is asked for.
func says(t *testing.T, what string, w *nvram.Words, groups uint32, right bool) {
	t.Helper()
	if g, r := w.Says(); g != groups || r != right {
		t.Errorf("%s: says %d, right %v, want %d, right %v", what, g, r, groups, right)
	}
	for g := range api.MaxGroups {
		if got, want := w.Marked(g), groups>>g&1 == 1; got != want {
			t.Errorf("%s: marked %d: %v, want %v", what, g, got, want)
		}
	}
}

// used holds how many units were used against how many are asked for.
func used(t *testing.T, what string, p *power.Supply, want int) {
	t.Helper()
	if got := p.Used(); got != want {
		t.Errorf("%s: %d units were used, want %d", what, got, want)
	}
}

// raw is the words themselves.
func raw(t *testing.T, w *nvram.Words) [3]uint32 {
	t.Helper()
	var l [3]uint32
	for i := range l {
		x, e := w.Get(i)
		told(t, "get", e, api.OK)
		l[i] = x
	}
	return l
}

// stand holds the words themselves against what is asked for.
func stand(t *testing.T, what string, w *nvram.Words, want [3]uint32) {
	t.Helper()
	if got := raw(t, w); got != want {
		t.Errorf("%s: words %v, want %v", what, got, want)
	}
}

// sum is that of a turn and groups, by the library's own check sums.
func sum(turn, groups uint32) uint32 {
	b := binary.LittleEndian.AppendUint32(nil, turn)
	b = binary.LittleEndian.AppendUint32(b, groups)
	return crc32.Checksum(b, crc32.MakeTable(crc32.Castagnoli))
}

// rightWords are the words that are right, of a turn and groups.
func rightWords(turn, groups uint32) [3]uint32 {
	return [3]uint32{turn, groups, sum(turn, groups)}
}

// poked is new words that are l.
func poked(t *testing.T, p *power.Supply, l [3]uint32) *nvram.Words {
	t.Helper()
	w := nvram.New(p)
	for i, x := range l {
		told(t, "poke", w.Poke(i, x), api.OK)
	}
	return w
}

// turned is what the words l are when so many steps of turning to groups came about.
func turned(l [3]uint32, groups uint32, steps int) [3]uint32 {
	if steps > 0 {
		l[1] = groups
	}
	if steps > 1 {
		l[0]++
	}
	if steps > 2 {
		l[2] = sum(l[0], l[1])
	}
	return l
}

// noGroups are numbers that are no groups; the bits of some would come round to one.
func noGroups() []int {
	return []int{-1, -2, -8, -32, -64, 8, 9, 31, 32, 33, 63, 64, 256, math.MinInt, math.MinInt + 1, math.MaxInt}
}

// noWords are numbers that are no words.
func noWords() []int {
	return []int{-1, -3, 3, 4, 256, math.MinInt, math.MinInt + 1, math.MaxInt}
}

// turns are some, the last ones ahead of where they go round among them.
func turns() []uint32 {
	return []uint32{0, 1, 2, 255, 256, 65535, 1 << 31, math.MaxUint32 - 1, math.MaxUint32}
}

// turning is a call that turns the words, and the groups that it turns them to from some.
type turning struct {
	do func(*nvram.Words) api.Errno
	to func(uint32) uint32
}

// calls are those that turn the words, which say neither the first group nor the last.
func calls() map[string]turning {
	return map[string]turning{
		"mark first": {func(w *nvram.Words) api.Errno { return w.Mark(0) }, func(g uint32) uint32 { return g | 1 }},
		"mark last":  {func(w *nvram.Words) api.Errno { return w.Mark(7) }, func(g uint32) uint32 { return g | 128 }},
		"keep":       {func(w *nvram.Words) api.Errno { return w.Keep(0x5a) }, func(uint32) uint32 { return 0x5a }},
		"keep more":  {func(w *nvram.Words) api.Errno { return w.Keep(0xffffff81) }, func(uint32) uint32 { return 0x81 }},
		"keep none":  {func(w *nvram.Words) api.Errno { return w.Keep(0) }, func(uint32) uint32 { return 0 }},
		"clear":      {func(w *nvram.Words) api.Errno { return w.Clear() }, func(uint32) uint32 { return 0 }},
	}
}

// 5.1: new words are noughts, and so not right; making them uses no power.
func TestNewIsNoughts(t *testing.T) {
	for _, p := range []*power.Supply{nil, power.New()} {
		w := nvram.New(p)
		if w == nil {
			t.Fatal("New made none")
		}
		stand(t, "new", w, [3]uint32{})
		says(t, "new", w, all, false)
		used(t, "new", p, 0)
	}
}

// 5.1: each New is words of their own.
func TestNewIsItsOwn(t *testing.T) {
	p := power.New()
	a, b := nvram.New(p), nvram.New(p)
	told(t, "clear a", a.Clear(), api.OK)
	told(t, "mark a", a.Mark(4), api.OK)
	says(t, "a", a, 16, true)
	stand(t, "b", b, [3]uint32{})
	says(t, "b", b, all, false)
}

// 5.1, the chapter's example.
func TestClearAndMark(t *testing.T) {
	w := nvram.New(power.New())
	says(t, "new", w, 255, false)
	told(t, "clear", w.Clear(), api.OK)
	told(t, "mark", w.Mark(3), api.OK)
	says(t, "marked", w, 8, true)
}

// 5.1: words by hand, so that no slip of code and test in what a sum is hides.
func TestWordsByHand(t *testing.T) {
	w := nvram.New(nil)
	w.Clear()
	stand(t, "clear", w, [3]uint32{1, 0, 3306475437})
	w.Mark(3)
	stand(t, "mark 3", w, [3]uint32{2, 8, 3893635874})
	w.Keep(0x81)
	stand(t, "keep", w, [3]uint32{3, 129, 3632879204})
}

// 5.1: group by group is marked, from the first to the last and back; each turns the words once.
func TestMarkAddsUp(t *testing.T) {
	for _, back := range []bool{false, true} {
		p := power.New()
		w := nvram.New(p)
		told(t, "clear", w.Clear(), api.OK)
		groups := uint32(0)
		for k := range 8 {
			g := k
			if back {
				g = 7 - k
			}
			told(t, "mark", w.Mark(g), api.OK)
			groups |= 1 << g
			says(t, "marked", w, groups, true)
			stand(t, "marked", w, rightWords(uint32(k+2), groups))
			used(t, "marked", p, 3*(k+2))
		}
	}
}

// 5.1, an edge: a Mark of a group that is marked does nothing, also where the power is gone.
func TestMarkOfMarked(t *testing.T) {
	for _, groups := range []uint32{1, 128, 0x5a, 255} {
		for g := range 8 {
			if groups>>g&1 == 0 {
				continue
			}
			p := power.New()
			w := poked(t, p, rightWords(9, groups))
			told(t, "mark", w.Mark(g), api.OK)
			p.Limit(0)
			told(t, "mark with no unit left", w.Mark(g), api.OK)
			if p.Gone() {
				t.Errorf("mark %d of %d asked for power", g, groups)
			}
			p.Use()
			told(t, "mark without power", w.Mark(g), api.OK)
			stand(t, "marked again", w, rightWords(9, groups))
			used(t, "marked again", p, 0)
		}
	}
}

// 5.1, an edge: a Mark of words that are not right does nothing, also where the power is gone.
func TestMarkOfWrong(t *testing.T) {
	good := rightWords(7, 4)
	for _, l := range [][3]uint32{{}, {7, 4, good[2] + 1}, {8, 4, good[2]}, {7, 5, good[2]}, {4, 7, good[2]}} {
		p := power.New()
		w := poked(t, p, l)
		for g := range 8 {
			told(t, "mark", w.Mark(g), api.OK)
		}
		p.Limit(0)
		told(t, "mark with no unit left", w.Mark(0), api.OK)
		if p.Gone() {
			t.Errorf("mark of %v asked for power", l)
		}
		p.Use()
		told(t, "mark without power", w.Mark(7), api.OK)
		stand(t, "wrong ones, marked", w, l)
		says(t, "wrong ones, marked", w, all, false)
		used(t, "wrong ones, marked", p, 0)
	}
}

// 5.1 and P2, wrong inputs: of no group Mark is ErrArg, whatever the words and the power are, and nothing is done.
func TestMarkOfNoGroup(t *testing.T) {
	for _, l := range [][3]uint32{{}, rightWords(3, 0), rightWords(3, 255), {3, 255, 0}} {
		p := power.New()
		w := poked(t, p, l)
		for _, gone := range []bool{false, true} {
			if gone {
				p.Limit(0)
				p.Use()
			}
			for _, g := range noGroups() {
				told(t, "mark", w.Mark(g), api.ErrArg)
				stand(t, "refused", w, l)
				used(t, "refused", p, 0)
			}
		}
	}
}

// 5.1: Keep and Clear turn words that are right and words that are not, also to what they say already.
func TestKeepAndClear(t *testing.T) {
	for _, l := range [][3]uint32{{}, rightWords(5, 0), rightWords(5, 0x5a), rightWords(5, 255), {5, 0x5a, 1}} {
		for groups := range all + 1 {
			p := power.New()
			w := poked(t, p, l)
			told(t, "keep", w.Keep(groups), api.OK)
			stand(t, "kept", w, rightWords(l[0]+1, groups))
			says(t, "kept", w, groups, true)
			told(t, "keep again", w.Keep(groups), api.OK)
			stand(t, "kept again", w, rightWords(l[0]+2, groups))
			told(t, "clear", w.Clear(), api.OK)
			stand(t, "cleared", w, rightWords(l[0]+3, 0))
			says(t, "cleared", w, 0, true)
			told(t, "clear again", w.Clear(), api.OK)
			stand(t, "cleared again", w, rightWords(l[0]+4, 0))
			used(t, "all of it", p, 12)
		}
	}
}

// 5.1, an edge: bits behind the last group are not kept.
func TestKeepOfBitsBehindTheLastGroup(t *testing.T) {
	for groups, want := range map[uint32]uint32{
		128: 128, 256: 0, 257: 1, 0x1ff: 255, 1 << 31: 0, 0xffffff00: 0, 0xffffff5a: 0x5a, math.MaxUint32: 255,
	} {
		w := nvram.New(power.New())
		told(t, "keep", w.Keep(groups), api.OK)
		stand(t, "kept", w, rightWords(1, want))
		says(t, "kept", w, want, true)
	}
}

// 5.1, an edge: the turn goes round.
func TestTurnGoesRound(t *testing.T) {
	for name, c := range calls() {
		w := poked(t, power.New(), rightWords(math.MaxUint32, 0x24))
		told(t, name, c.do(w), api.OK)
		stand(t, name, w, rightWords(0, c.to(0x24)))
		says(t, name, w, c.to(0x24), true)
		told(t, name+", behind it", w.Keep(2), api.OK)
		stand(t, name+", behind it", w, rightWords(1, 2))
	}
}

// 5.1: wherever the supply ends the words stop there: the groups come first, the sum last.
func TestPowerGoesInATurn(t *testing.T) {
	for name, c := range calls() {
		for _, turn := range turns() {
			for left := range 5 {
				p := power.New()
				l := rightWords(turn, 0x24)
				w := poked(t, p, l)
				p.Limit(left)
				want := api.ErrDown
				if left >= 3 {
					want = api.OK
				}
				told(t, name, c.do(w), want)
				stand(t, name, w, turned(l, c.to(0x24), left))
				used(t, name, p, min(left, 3))
				if p.Gone() != (left < 3) {
					t.Errorf("%s with %d units: gone %v", name, left, p.Gone())
				}
			}
		}
	}
}

// 5.1: with no power at all nothing is written, and behind its coming back the words turn again.
func TestPowerComesBack(t *testing.T) {
	for left := range 3 {
		p := power.New()
		l := rightWords(40, 2)
		w := poked(t, p, l)
		p.Limit(left)
		told(t, "mark", w.Mark(5), api.ErrDown)
		torn := turned(l, 2|32, left)
		told(t, "clear without power", w.Clear(), api.ErrDown)
		told(t, "keep without power", w.Keep(8), api.ErrDown)
		stand(t, "without power", w, torn)
		p.Restore()
		stand(t, "restored", w, torn)
		told(t, "keep", w.Keep(8), api.OK)
		stand(t, "kept", w, rightWords(torn[0]+1, 8))
		told(t, "mark", w.Mark(0), api.OK)
		stand(t, "marked", w, rightWords(torn[0]+2, 9))
	}
}

// 5.1, an edge: words without a supply have power without an end.
func TestWithoutASupply(t *testing.T) {
	w := nvram.New(nil)
	for k := range 1000 {
		told(t, "clear", w.Clear(), api.OK)
		told(t, "mark", w.Mark(k%8), api.OK)
		stand(t, "marked", w, rightWords(uint32(2*k+2), 1<<(k%8)))
	}
}

// 5.2: words are right only by their sum, of the turn ahead of the groups, the lowest byte first.
func TestRightOnlyByTheSum(t *testing.T) {
	for _, turn := range turns() {
		for groups := range all + 1 {
			l := rightWords(turn, groups)
			says(t, "right ones", poked(t, nil, l), groups, true)
			for k := range 32 {
				for i := range l {
					wrong := l
					wrong[i] ^= 1 << k
					if g, r := poked(t, nil, wrong).Says(); g != all || r {
						t.Errorf("%v for %v: says %d, right %v", wrong, l, g, r)
					}
				}
			}
		}
	}
}

// 5.2: a Poke makes the words wrong, and another makes them right again, without power.
func TestPokeWrongAndRight(t *testing.T) {
	p := power.New()
	w := nvram.New(p)
	w.Clear()
	w.Mark(1)
	p.Limit(0)
	p.Use()
	was := raw(t, w)
	for i, x := range was {
		told(t, "poke", w.Poke(i, x+1), api.OK)
		says(t, "poked wrong", w, all, false)
		told(t, "poke", w.Poke(i, x), api.OK)
		says(t, "poked right", w, 2, true)
		stand(t, "poked right", w, was)
	}
	used(t, "poked", p, 6)
}

// 5.2: Get tells what was poked, word by word, and no other word changes.
func TestGetTellsPoke(t *testing.T) {
	w := nvram.New(nil)
	var want [3]uint32
	for k, x := range []uint32{5, math.MaxUint32, 0, 1 << 31, 256, 77, 0, 1} {
		told(t, "poke", w.Poke(k%3, x), api.OK)
		want[k%3] = x
		stand(t, "poked", w, want)
	}
}

// 5.2 and P2, wrong inputs: of words that there are not Get and Poke are ErrArg, and nothing is done.
func TestNoWord(t *testing.T) {
	for _, l := range [][3]uint32{{}, rightWords(8, 3), {1, 2, 3}} {
		p := power.New()
		w := poked(t, p, l)
		for _, i := range noWords() {
			x, e := w.Get(i)
			told(t, "get", e, api.ErrArg)
			if x != 0 {
				t.Errorf("get %d: %d beside an error", i, x)
			}
			told(t, "poke", w.Poke(i, 99), api.ErrArg)
			stand(t, "refused", w, l)
		}
		used(t, "refused", p, 0)
	}
}

// 5.2, wrong inputs: no group is marked that there is not, whatever the words are.
func TestMarkedOfNoGroup(t *testing.T) {
	for _, l := range [][3]uint32{{}, rightWords(3, 0), rightWords(3, 255), rightWords(3, math.MaxUint32)} {
		w := poked(t, nil, l)
		for _, g := range noGroups() {
			if w.Marked(g) {
				t.Errorf("words %v: marked %d", l, g)
			}
		}
	}
}

// 5.2: bits behind the last group are no groups, also where the words are right with them: the next turn drops them.
func TestPokedBitsBehindTheLastGroup(t *testing.T) {
	for _, groups := range []uint32{256, 0x105, 1 << 31, 0xffffff00, math.MaxUint32 - 128} {
		l := rightWords(6, groups)
		w := poked(t, nil, l)
		says(t, "poked", w, groups&255, true)
		stand(t, "poked", w, l)
		told(t, "mark", w.Mark(7), api.OK)
		stand(t, "marked", w, rightWords(7, groups&255|128))
		says(t, "marked", w, groups&255|128, true)
	}
}

// 5.2: All is all MaxGroups bits.
func TestAll(t *testing.T) {
	if got := nvram.All(); got != 255 {
		t.Errorf("All: %d, want 255", got)
	}
	for g := range 32 {
		if got, want := nvram.All()>>g&1 == 1, g < api.MaxGroups; got != want {
			t.Errorf("All, bit %d: %v, want %v", g, got, want)
		}
	}
}

// 5.2: what asks changes nothing, and needs no power.
func TestAskingChangesNothing(t *testing.T) {
	for _, l := range [][3]uint32{{}, rightWords(3, 0x42), {9, 8, 7}} {
		p := power.New()
		w := poked(t, p, l)
		p.Limit(0)
		for range 3 {
			w.Says()
			for g := -1; g <= 8; g++ {
				w.Marked(g)
			}
			stand(t, "asked", w, l)
		}
		if p.Gone() {
			t.Error("asking asked for power")
		}
	}
}

// 5.1, 5.2, P1, wrong inputs: words that are none; ErrNil comes ahead of ErrArg.
func TestNone(t *testing.T) {
	var w *nvram.Words
	for _, g := range append(noGroups(), 0, 3, 7) {
		told(t, "mark", w.Mark(g), api.ErrNil)
		if w.Marked(g) {
			t.Errorf("none: marked %d", g)
		}
	}
	told(t, "clear", w.Clear(), api.ErrNil)
	for _, x := range []uint32{0, 1, 255, 256, math.MaxUint32} {
		told(t, "keep", w.Keep(x), api.ErrNil)
	}
	if g, r := w.Says(); g != 0 || r {
		t.Errorf("none: says %d, right %v", g, r)
	}
	for _, i := range append(noWords(), 0, 1, 2) {
		x, e := w.Get(i)
		told(t, "get", e, api.ErrNil)
		if x != 0 {
			t.Errorf("none: get %d: %d", i, x)
		}
		told(t, "poke", w.Poke(i, 1), api.ErrNil)
	}
}

// 5.3: wherever the power goes in a Mark, nothing that was marked is lost; when it was OK g is marked, too.
func TestNeverFewer(t *testing.T) {
	for _, turn := range turns() {
		for was := range all + 1 {
			for g := range 8 {
				for left := range 4 {
					p := power.New()
					w := poked(t, p, rightWords(turn, was))
					p.Limit(left)
					e := w.Mark(g)
					if got, _ := w.Says(); got&was != was {
						t.Fatalf("%d of turn %d, mark %d with %d units: says %d", was, turn, g, left, got)
					}
					if e == api.OK && !w.Marked(g) {
						t.Fatalf("%d of turn %d, mark %d with %d units: OK, not marked", was, turn, g, left)
					}
				}
			}
		}
	}
}

// 5.3: so it is of words that are not right, and of bits behind the last group.
func TestNeverFewerOfAnyWords(t *testing.T) {
	for _, l := range [][3]uint32{{}, {1, 2, 3}, rightWords(4, 0x101), rightWords(4, 0xffffff00), rightWords(4, math.MaxUint32)} {
		for g := range 8 {
			for left := range 4 {
				p := power.New()
				w := poked(t, p, l)
				was, _ := w.Says()
				p.Limit(left)
				e := w.Mark(g)
				if got, _ := w.Says(); got&was != was {
					t.Errorf("%v, mark %d with %d units: says %d, said %d", l, g, left, got, was)
				}
				if e == api.OK && !w.Marked(g) {
					t.Errorf("%v, mark %d with %d units: OK, not marked", l, g, left)
				}
			}
		}
	}
}

// 5.3: over Mark behind Mark, each of which may lose power, all that were OK are marked.
func TestNeverFewerOverManyMarks(t *testing.T) {
	for first := range 8 {
		for left := range 25 {
			p := power.New()
			w := poked(t, p, rightWords(0, 0))
			p.Limit(left)
			done := uint32(0)
			for k := range 8 {
				g := (first + 3*k) % 8
				if w.Mark(g) == api.OK {
					done |= 1 << g
				}
			}
			p.Restore()
			if got, _ := w.Says(); got&done != done {
				t.Errorf("from %d, %d units: says %d, marked %d", first, left, got, done)
			}
		}
	}
}

// 5.4: where Clear and Keep are OK the words are right, and say none, or those; whatever they were, wherever the power went.
func TestCleared(t *testing.T) {
	starts := [][3]uint32{{}, {1, 2, 3}, {math.MaxUint32, math.MaxUint32, math.MaxUint32}, rightWords(0, 0), rightWords(0, math.MaxUint32), rightWords(math.MaxUint32, 0x99)}
	for _, l := range starts {
		for left := range 5 {
			for _, keep := range []uint32{0, 1, 0x5a, 128, 255, 256, math.MaxUint32} {
				p := power.New()
				w := poked(t, p, l)
				p.Limit(left)
				if e := w.Keep(keep); e == api.OK {
					says(t, "kept", w, keep&255, true)
				} else if left >= 3 {
					t.Errorf("keep with %d units: %d", left, e)
				}
			}
			p := power.New()
			w := poked(t, p, l)
			p.Limit(left)
			if e := w.Clear(); e == api.OK {
				says(t, "cleared", w, 0, true)
			} else if left >= 3 {
				t.Errorf("clear with %d units: %d", left, e)
			}
		}
	}
}

// 5.1 to 5.4: long runs of all calls, with power that goes and comes, held against the chapter's words step by step.
func TestLongRuns(t *testing.T) {
	x := uint32(1)
	draw := func(n uint32) uint32 {
		x = x*1664525 + 1013904223
		return x >> 8 % n
	}
	for range 50 {
		p := power.New()
		w := nvram.New(p)
		var l [3]uint32
		left, endless := 0, true
		turn := func(groups uint32) api.Errno {
			if endless {
				l = turned(l, groups, 3)
				return api.OK
			}
			l = turned(l, groups, left)
			if left < 3 {
				left = 0
				return api.ErrDown
			}
			left -= 3
			return api.OK
		}
		for range 400 {
			right := l[2] == sum(l[0], l[1])
			switch draw(8) {
			case 0, 1, 2, 3:
				g, want := int(draw(8)), api.OK
				if right && l[1]>>g&1 == 0 {
					want = turn(l[1] | 1<<g)
				}
				told(t, "mark", w.Mark(g), want)
			case 4:
				groups := draw(1 << 16)
				want := turn(groups & 255)
				told(t, "keep", w.Keep(groups), want)
			case 5:
				want := turn(0)
				told(t, "clear", w.Clear(), want)
			case 6:
				if !p.Gone() {
					left, endless = int(draw(9)), false
					p.Limit(left)
				}
			case 7:
				p.Restore()
				endless = true
			}
			if stand(t, "long run", w, l); t.Failed() {
				return
			}
			if l[2] == sum(l[0], l[1]) {
				says(t, "long run", w, l[1], true)
			} else {
				says(t, "long run", w, all, false)
			}
		}
	}
}
