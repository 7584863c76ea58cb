package ptrs_test

import (
	"math"
	"slices"
	"testing"

	"scupper/api"
	"scupper/ptrs"
)

// The document's numbers, written out, so that no shared slip of code and test hides.
const (
	places = 27
	blocks = 760
)

// read is a load's pointers, in the chapter's words: two bytes each, the lowest first.
func read(p api.Load) []uint16 {
	var l []uint16
	for at := 0; at < len(p); at += 2 {
		l = append(l, uint16(p[at])+256*uint16(p[at+1]))
	}
	return l
}

// laid is p with both bytes of a pointer at its place.
func laid(p api.Load, i int, to uint16) api.Load {
	p[2*i], p[2*i+1] = byte(to%256), byte(to/256)
	return p
}

// counting is 1, 2, 3 .. 54.
func counting() api.Load {
	var p api.Load
	for i := range p {
		p[i] = byte(i + 1)
	}
	return p
}

// loads are noughts, bytes that are alike, bytes that are all others, and those of no order, some of them 0.
func loads() []api.Load {
	l := []api.Load{{}, counting()}
	r := uint32(5)
	for v := 1; v < 256; v += 2 {
		var alike, mixed, thin api.Load
		for i := range alike {
			r = r*1664525 + 1013904223
			alike[i], mixed[i] = byte(v), byte(r>>24)
			if r>>8%3 == 0 {
				thin[i] = byte(r >> 24)
			}
		}
		l = append(l, alike, mixed, thin)
	}
	return l
}

// someValues are pointers at and beside the edges of both bytes.
func someValues() []uint16 {
	return []uint16{0, 1, 2, 127, 128, 254, 255, 256, 257, 513, 2047, 2048, 32767, 32768, 65279, 65280, 65534, 65535}
}

// noPlaces are places that may not be, those among them whose double, or 27-fold, wraps round to one that may.
func noPlaces() []int {
	return []int{
		-1, -2, -26, -27, -28, -54, 27, 28, 53, 54, 55, 64, 255, 256, 65536, 1 << 31, -1 << 31,
		math.MaxInt, math.MaxInt - 1, math.MaxInt/2 + 1, math.MaxInt/2 + 2, math.MaxInt/2 + 14, -math.MaxInt / 2, -math.MaxInt/2 - 1,
		math.MinInt, math.MinInt + 1, math.MinInt + 3, math.MinInt + 26, math.MinInt + 27,
	}
}

// 11.1: a load's pointers, written out.
func TestWrittenOut(t *testing.T) {
	p := counting()
	for _, c := range []struct {
		i    int
		want uint16
	}{{0, 0x0201}, {1, 0x0403}, {2, 0x0605}, {13, 0x1c1b}, {25, 0x3433}, {26, 0x3635}} {
		if to, e := ptrs.At(p, c.i); to != c.want || e != api.OK {
			t.Errorf("place %d: %#x, error %d, want %#x", c.i, to, e, c.want)
		}
		if to := ptrs.All(p)[c.i]; to != c.want {
			t.Errorf("place %d of all: %#x, want %#x", c.i, to, c.want)
		}
	}
	first, e := ptrs.With(api.Load{}, 0, 513)
	if want := (api.Load{0: 1, 1: 2}); first != want || e != api.OK {
		t.Errorf("513 at place 0: %v, error %d, want %v", first, e, want)
	}
	last, e := ptrs.With(api.Load{}, 26, 65280)
	if want := (api.Load{53: 255}); last != want || e != api.OK {
		t.Errorf("65280 at place 26: %v, error %d, want %v", last, e, want)
	}
}

// 11.1: At tells the pointer of each place, of any load; All tells all 27 of them, those that are 0 too.
func TestAtAll(t *testing.T) {
	for _, p := range loads() {
		want := read(p)
		all := ptrs.All(p)
		if len(all) != places || !slices.Equal(all, want) {
			t.Errorf("all of %v: %v, want %v", p, all, want)
		}
		for i := range places {
			if to, e := ptrs.At(p, i); to != want[i] || e != api.OK {
				t.Errorf("place %d of %v: %d, error %d, want %d", i, p, to, e, want[i])
			}
		}
	}
}

// 11.1: a byte of the load is of its own place's pointer alone: the even ones are the lower.
func TestOneByte(t *testing.T) {
	for at := range api.Payload {
		var p api.Load
		p[at] = 129
		for i := range places {
			want := uint16(0)
			if at == 2*i {
				want = 129
			} else if at == 2*i+1 {
				want = 129 * 256
			}
			if to, e := ptrs.At(p, i); to != want || e != api.OK {
				t.Errorf("byte %d, place %d: %d, error %d, want %d", at, i, to, e, want)
			}
		}
		if n := ptrs.Used(p); n != 1 {
			t.Errorf("byte %d alone: %d are used, want 1", at, n)
		}
	}
}

// 11.1: With sets each place of any load to a pointer, 0 and the greatest among them, and all other bytes stay.
func TestWith(t *testing.T) {
	for _, p := range loads() {
		for i := range places {
			for _, to := range someValues() {
				was, want := p, laid(p, i, to)
				if q, e := ptrs.With(p, i, to); q != want || e != api.OK {
					t.Errorf("%d at place %d of %v: %v, error %d, want %v", to, i, p, q, e, want)
				}
				if p != was {
					t.Errorf("%d at place %d: the load that was handed in is %v", to, i, p)
				}
			}
		}
	}
}

// 11.1: every pointer that there is, set at every place, is told there.
func TestWithAt(t *testing.T) {
	p := counting()
	for i := range places {
		for x := range 65536 {
			q, e := ptrs.With(p, i, uint16(x))
			to, f := ptrs.At(q, i)
			if e != api.OK || f != api.OK || int(to) != x || q != laid(p, i, uint16(x)) {
				t.Fatalf("%d at place %d: error %d; %d is there, error %d, in %v", x, i, e, to, f, q)
			}
		}
	}
}

// 11.1: what is set anew takes the place of what was there; places that are set one by one don't touch each other.
func TestWithAgain(t *testing.T) {
	for _, p := range loads() {
		want := read(p)
		for k := range 3 * places {
			i, to := (k*10)%places, uint16(k*9973)
			want[i] = to
			p, _ = ptrs.With(p, i, to)
			if all := ptrs.All(p); !slices.Equal(all, want) {
				t.Fatalf("behind %d at place %d: %v, want %v", to, i, all, want)
			}
		}
	}
}

// 11.1: places that are not from 0 to 26 are told ErrArg, and nothing else, whatever the load and the pointer.
func TestNoPlace(t *testing.T) {
	for _, i := range noPlaces() {
		for _, p := range loads() {
			if to, e := ptrs.At(p, i); to != 0 || e != api.ErrArg {
				t.Errorf("at place %d: %d, error %d, want 0, error 2", i, to, e)
			}
			for _, to := range []uint16{0, 513, 65535} {
				if q, e := ptrs.With(p, i, to); q != (api.Load{}) || e != api.ErrArg {
					t.Errorf("%d at place %d: %v, error %d, want noughts, error 2", to, i, q, e)
				}
			}
		}
	}
}

// 11.1: the list is the caller's own: what is done to it is not seen by a later call, nor is the load.
func TestAllOwn(t *testing.T) {
	for _, p := range loads() {
		was, other := p, ptrs.All(p)
		all := ptrs.All(p)
		for i := range all {
			all[i] ^= 65535
		}
		_ = append(all[:3], 77, 77, 77)
		if p != was || !slices.Equal(other, read(was)) || !slices.Equal(ptrs.All(p), read(was)) {
			t.Errorf("%v, asked again: %v, %v", was, other, ptrs.All(p))
		}
	}
}

// 11.1: Used counts what is not 0: none, any number from the front or from the back, and all.
func TestUsed(t *testing.T) {
	for _, to := range someValues()[1:] {
		var front, back api.Load
		for n := range places {
			if a, b := ptrs.Used(front), ptrs.Used(back); a != n || b != n {
				t.Errorf("%d of %d: %d and %d are used", n, to, a, b)
			}
			front, back = laid(front, n, to), laid(back, places-1-n, to)
		}
		if a, b := ptrs.Used(front), ptrs.Used(back); a != places || b != places {
			t.Errorf("all of %d: %d and %d are used, want 27", to, a, b)
		}
	}
	for _, p := range loads() {
		want := 0
		for _, to := range read(p) {
			if to != 0 {
				want++
			}
		}
		if n := ptrs.Used(p); n != want {
			t.Errorf("%d of %v are used, want %d", n, p, want)
		}
	}
}

// 11.1: a pointer more, or one less, is used, as it is set or taken away.
func TestUsedWith(t *testing.T) {
	for _, p := range loads() {
		for i := range places {
			without, _ := ptrs.With(p, i, 0)
			for _, to := range someValues()[1:] {
				with, _ := ptrs.With(p, i, to)
				if a, b := ptrs.Used(without), ptrs.Used(with); a+1 != b {
					t.Errorf("place %d of %v: %d are used without, %d with %d", i, p, a, b, to)
				}
			}
		}
	}
}

// ways are all of them, by the blocks that they lead to: level by level, place by place.
func ways() []ptrs.Way {
	var l []ptrs.Way
	for a := range 4 {
		l = append(l, ptrs.Way{Level: 0, First: a})
	}
	for a := range 27 {
		l = append(l, ptrs.Way{Level: 1, First: a})
	}
	for a := range 27 {
		for b := range 27 {
			l = append(l, ptrs.Way{Level: 2, First: a, Second: b})
		}
	}
	return l
}

// edge is a block, and its way, written out.
type edge struct {
	k int
	w ptrs.Way
}

// edges are the chapter's example, and the first and the last of each level and of some sectors of pointers there.
func edges() []edge {
	return []edge{
		{59, ptrs.Way{Level: 2, First: 1, Second: 1}},
		{0, ptrs.Way{Level: 0, First: 0}}, {1, ptrs.Way{Level: 0, First: 1}}, {3, ptrs.Way{Level: 0, First: 3}},
		{4, ptrs.Way{Level: 1, First: 0}}, {6, ptrs.Way{Level: 1, First: 2}}, {30, ptrs.Way{Level: 1, First: 26}},
		{31, ptrs.Way{Level: 2, First: 0, Second: 0}}, {32, ptrs.Way{Level: 2, First: 0, Second: 1}},
		{57, ptrs.Way{Level: 2, First: 0, Second: 26}}, {58, ptrs.Way{Level: 2, First: 1, Second: 0}},
		{732, ptrs.Way{Level: 2, First: 25, Second: 26}}, {733, ptrs.Way{Level: 2, First: 26, Second: 0}},
		{759, ptrs.Way{Level: 2, First: 26, Second: 26}},
	}
}

// 11.2: the chapter's example, and the edges of each level, both ways.
func TestEdges(t *testing.T) {
	for _, c := range edges() {
		if w, e := ptrs.To(c.k); w != c.w || e != api.OK {
			t.Errorf("to block %d: %v, error %d, want %v", c.k, w, e, c.w)
		}
		if k, e := ptrs.Block(c.w); k != c.k || e != api.OK {
			t.Errorf("block of %v: %d, error %d, want %d", c.w, k, e, c.k)
		}
	}
}

// 11.2: all blocks of a file, and all ways.
func TestToBlock(t *testing.T) {
	if len(ways()) != blocks || api.MaxBlocks != blocks {
		t.Fatalf("%d ways, and %d blocks", len(ways()), api.MaxBlocks)
	}
	for k, want := range ways() {
		if w, e := ptrs.To(k); w != want || e != api.OK {
			t.Errorf("to block %d: %v, error %d, want %v", k, w, e, want)
		}
		if got, e := ptrs.Block(want); got != k || e != api.OK {
			t.Errorf("block of %v: %d, error %d, want %d", want, got, e, k)
		}
	}
}

// 11.2: blocks that are not from 0 to MaxBlocks - 1 are told ErrBig, and nothing else.
func TestNoBlock(t *testing.T) {
	for _, k := range []int{
		-1, -2, -4, -27, -31, -759, -760, -761, 760, 761, 786, 787, 1024, 48640, 65536, 65540, 1 << 31, 1<<31 + 4, -1 << 31,
		math.MaxInt, math.MaxInt - 1, math.MinInt, math.MinInt + 1, math.MinInt + 4, math.MinInt + 31,
	} {
		if w, e := ptrs.To(k); w != (ptrs.Way{}) || e != api.ErrBig {
			t.Errorf("to block %d: %v, error %d, want noughts, error 31", k, w, e)
		}
	}
}

// noWay asks whether Block refuses the way.
func noWay(t *testing.T, w ptrs.Way) {
	t.Helper()
	if k, e := ptrs.Block(w); k != 0 || e != api.ErrArg {
		t.Errorf("block of %v: %d, error %d, want 0, error 2", w, k, e)
	}
}

// 11.2: ways that there are not, one thing wrong in each.
func TestNoWay(t *testing.T) {
	for _, w := range []ptrs.Way{
		{Level: -1}, {Level: 3}, {Level: -1, First: 3}, {Level: 3, First: 1, Second: 1}, {Level: 4}, {Level: 256}, {Level: 258, First: 1, Second: 1},
		{Level: 0, First: -1}, {Level: 0, First: 4}, {Level: 0, First: 5}, {Level: 0, First: 30}, {Level: 0, First: 31}, {Level: 0, First: 759},
		{Level: 1, First: -1}, {Level: 1, First: -4}, {Level: 1, First: 27}, {Level: 1, First: 28}, {Level: 1, First: 755},
		{Level: 2, First: -1}, {Level: 2, First: 27}, {Level: 2, First: -1, Second: 26}, {Level: 2, First: -1, Second: 27}, {Level: 2, First: 27, Second: -1},
		{Level: 2, First: 0, Second: -1}, {Level: 2, First: 0, Second: 27}, {Level: 2, First: 1, Second: -27}, {Level: 2, First: 0, Second: 728},
		{Level: 2, First: 26, Second: 27}, {Level: 2, First: 26, Second: -1}, {Level: 2, First: 0, Second: -31}, {Level: 2, First: 0, Second: -27},
		{Level: 0, First: 0, Second: 1}, {Level: 0, First: 0, Second: -1}, {Level: 0, First: 3, Second: 26},
		{Level: 1, First: 0, Second: 1}, {Level: 1, First: 2, Second: 1}, {Level: 1, First: 26, Second: -1}, {Level: 1, First: 26, Second: 26},
	} {
		noWay(t, w)
	}
}

// 11.2: of all levels and places at and beside those that there are, just the ways lead to a block.
func TestWaysAlone(t *testing.T) {
	is := map[ptrs.Way]int{}
	for k, w := range ways() {
		is[w] = k
	}
	found := 0
	for level := -3; level <= 5; level++ {
		for first := -40; first <= 800; first++ {
			for second := -40; second <= 60; second++ {
				w := ptrs.Way{Level: level, First: first, Second: second}
				want, right := is[w]
				if !right {
					noWay(t, w)
					continue
				}
				found++
				if k, e := ptrs.Block(w); k != want || e != api.OK {
					t.Errorf("block of %v: %d, error %d, want %d", w, k, e, want)
				}
			}
		}
	}
	if found != blocks {
		t.Errorf("%d ways, want 760", found)
	}
}

// 11.2: the smallest and the greatest numbers, in each part of a way, and those that would wrap round to a block.
func TestNoWayFar(t *testing.T) {
	far := []int{math.MinInt, math.MinInt + 1, math.MinInt + 3, -1 << 31, 1 << 31, 1<<31 + 1, math.MaxInt - 3, math.MaxInt - 1, math.MaxInt}
	for _, x := range far {
		for level := range 3 {
			for _, y := range append([]int{-1, 0, 1, 3, 26, 27}, far...) {
				noWay(t, ptrs.Way{Level: level, First: x, Second: y})
				noWay(t, ptrs.Way{Level: level, First: y, Second: x})
				noWay(t, ptrs.Way{Level: x, First: y, Second: y})
				noWay(t, ptrs.Way{Level: x, First: y})
			}
		}
		noWay(t, ptrs.Way{Level: x, First: x, Second: x})
		// Second is what 27 times First lacks: with wrap-round both add up to a place from 0 on.
		for place := range 729 {
			noWay(t, ptrs.Way{Level: 2, First: x, Second: place - 27*x})
			noWay(t, ptrs.Way{Level: 2, First: place, Second: x - 27*place})
		}
	}
	// 27 times these wraps round to just beside 0.
	for n := 1; n < 27; n++ {
		near := int(math.MaxUint / 27 * uint(n))
		for first := near - 30; first <= near+30; first++ {
			for second := range 27 {
				noWay(t, ptrs.Way{Level: 2, First: first, Second: second})
			}
		}
	}
}

// 11.3: the way of a block leads to that block, and no other block has it.
func TestBack(t *testing.T) {
	whose := map[ptrs.Way]int{}
	for k := range blocks {
		w, e := ptrs.To(k)
		if e != api.OK {
			t.Fatalf("to block %d: error %d", k, e)
		}
		if other, is := whose[w]; is {
			t.Errorf("blocks %d and %d have one way, %v", other, k, w)
		}
		whose[w] = k
		if back, e := ptrs.Block(w); back != k || e != api.OK {
			t.Errorf("block %d, to and back: %d, error %d", k, back, e)
		}
	}
	if len(whose) != blocks {
		t.Errorf("%d ways, want 760", len(whose))
	}
}

// 11.3: a way that leads to a block is that block's way.
func TestForth(t *testing.T) {
	for _, w := range ways() {
		k, e := ptrs.Block(w)
		back, f := ptrs.To(k)
		if e != api.OK || f != api.OK || back != w {
			t.Errorf("%v: block %d, error %d, whose way is %v, error %d", w, k, e, back, f)
		}
	}
}

// 11.2: the blocks that sizes need, written out: at and beside the edges, below 0, and as great as an int can be.
func TestBlocks(t *testing.T) {
	for _, c := range []struct{ size, want int }{
		{0, 0}, {1, 1}, {2, 1}, {54, 1}, {63, 1}, {64, 1}, {65, 2}, {127, 2}, {128, 2}, {129, 3},
		{255, 4}, {256, 4}, {257, 5}, {1983, 31}, {1984, 31}, {1985, 32},
		{48575, 759}, {48576, 759}, {48577, 760}, {48639, 760}, {48640, 760}, {48641, 761}, {65536, 1024}, {65537, 1025},
		{-1, 0}, {-2, 0}, {-63, 0}, {-64, 0}, {-65, 0}, {-128, 0}, {-48640, 0}, {-1 << 31, 0}, {math.MinInt, 0}, {math.MinInt + 1, 0}, {math.MinInt + 63, 0},
		{math.MaxInt, math.MaxInt/64 + 1}, {math.MaxInt - 1, math.MaxInt/64 + 1}, {math.MaxInt - 62, math.MaxInt/64 + 1},
		{math.MaxInt - 63, math.MaxInt / 64}, {math.MaxInt - 64, math.MaxInt / 64},
	} {
		if n := ptrs.Blocks(c.size); n != c.want {
			t.Errorf("%d bytes need %d blocks, want %d", c.size, n, c.want)
		}
	}
}

// 11.2: every size of a file, and some behind: byte by byte a block more is needed when the last one is full.
func TestBlocksEach(t *testing.T) {
	want, room := 0, 0
	for size := range api.MaxSize + 1000 {
		if size > room {
			want, room = want+1, room+64
		}
		if n := ptrs.Blocks(size); n != want {
			t.Fatalf("%d bytes need %d blocks, want %d", size, n, want)
		}
		if n := ptrs.Blocks(-size); n != 0 {
			t.Fatalf("%d bytes need %d blocks, want none", -size, n)
		}
	}
}

// 11.2: the last block of a file has a way up to MaxSize, and none behind it.
func TestBlocksTo(t *testing.T) {
	for size := 1; size <= api.MaxSize; size++ {
		if w, e := ptrs.To(ptrs.Blocks(size) - 1); e != api.OK {
			t.Fatalf("%d bytes: the last block's way is %v, error %d", size, w, e)
		}
	}
	if w, e := ptrs.To(ptrs.Blocks(api.MaxSize+1) - 1); e != api.ErrBig {
		t.Errorf("a byte more than MaxSize: the last block's way is %v, error %d, want error 31", w, e)
	}
}

// P1, P2: what is asked again is answered as before, whatever was asked, and refused, between.
func TestAgain(t *testing.T) {
	p := counting()
	for range 3 {
		for _, i := range noPlaces() {
			ptrs.At(p, i)
			ptrs.With(p, i, 9)
			ptrs.To(760 + i&1023)
			ptrs.Block(ptrs.Way{Level: i, First: i, Second: i})
			ptrs.Blocks(i)
		}
		if p != counting() || ptrs.Used(p) != places || !slices.Equal(ptrs.All(p), read(p)) {
			t.Fatalf("the load is %v", p)
		}
		for _, c := range edges() {
			w, e := ptrs.To(c.k)
			k, f := ptrs.Block(c.w)
			if w != c.w || k != c.k || e != api.OK || f != api.OK {
				t.Fatalf("block %d: %v, error %d; block of %v: %d, error %d", c.k, w, e, c.w, k, f)
			}
		}
	}
}
