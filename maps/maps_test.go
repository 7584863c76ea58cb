package maps_test

import (
	"math"
	"testing"

	"scupper/api"
	"scupper/maps"
)

// shape is groups, and of each sectors of inodes and of data.
func shape(groups, inodes, data int) api.Geom {
	return api.Geom{Groups: groups, Inodes: inodes, Data: data}
}

// shapes are those of one, two and most groups, with all numbers of inodes and of data that may be.
func shapes() []api.Geom {
	var l []api.Geom
	for _, groups := range []int{1, 2, 8} {
		for inodes := 1; inodes <= 8; inodes++ {
			for data := 4; data <= 128; data++ {
				l = append(l, shape(groups, inodes, data))
			}
		}
	}
	return l
}

// some are a few shapes, those at the ends among them; some end with a byte, some within one.
func some() []api.Geom {
	return []api.Geom{shape(1, 1, 4), shape(8, 8, 128), shape(1, 1, 128), shape(8, 8, 4), shape(2, 1, 10), shape(3, 5, 8), shape(1, 2, 7), shape(4, 3, 127), shape(8, 7, 65)}
}

// noShapes are some that may not be; cut to a byte, two or four, some of them would be.
func noShapes() []api.Geom {
	l := []api.Geom{{}, shape(-1, -1, -4), shape(9, 9, 129)}
	for _, n := range []int{0, 9, -1, 256, 257, 65537, 1<<32 + 1, math.MinInt, math.MinInt + 1, math.MaxInt} {
		l = append(l, shape(n, 2, 100), shape(1, n, 100))
	}
	for _, n := range []int{0, 1, 3, 129, -1, -4, 260, 65540, 1<<32 + 4, math.MinInt, math.MinInt + 4, math.MaxInt} {
		l = append(l, shape(1, 2, n))
	}
	return l
}

// full is a load with every bit set.
func full() api.Load {
	var p api.Load
	for i := range p {
		p[i] = 255
	}
	return p
}

// loads are noughts, all bits, every second one, bits of no order, and those with noughts behind the maps.
func loads() []api.Load {
	l := []api.Load{{}, full()}
	var even, odd, mixed api.Load
	x := uint32(7)
	for i := range even {
		x = x*1664525 + 1013904223
		even[i], odd[i], mixed[i] = 0x55, 0xaa, byte(x>>24)
	}
	l = append(l, even, odd, mixed)
	for _, p := range l[1:] {
		var q api.Load
		copy(q[:19], p[:])
		l = append(l, q)
	}
	return l
}

// kind is one of both that maps are of: where its bytes begin, and how many places it has at most.
type kind struct {
	kind, at, most int
}

func kinds() []kind { return []kind{{0, 0, 128}, {4, 16, 24}} }

// otherKinds have no map; cut to a byte, two or four, some of them would.
func otherKinds() []int {
	return []int{1, 2, 3, 5, 6, 7, 8, -1, -4, 256, 260, 65536, 65540, 1 << 32, 1<<32 + 4, math.MinInt, math.MinInt + 4, math.MaxInt}
}

// noPlaces are places that a map of that many has not.
func noPlaces(most int) []int {
	return []int{-1, -8, -128, most, most + 1, most + 8, 256, 432, 1 << 16, 1 << 32, math.MinInt, math.MinInt + 1, math.MaxInt - 1, math.MaxInt}
}

// isSet asks the load's bytes by the words of chapters 1 and 9.
func isSet(p api.Load, k kind, i int) bool { return p[k.at+i/8]>>(i%8)%2 == 1 }

// turned is p with the bit of that place the other way.
func turned(p api.Load, k kind, i int) api.Load {
	p[k.at+i/8] ^= 1 << (i % 8)
	return p
}

// room is how many places of that kind a group of a shape that may be has.
func room(g api.Geom, k kind) int {
	if k.kind == 0 {
		return g.Data
	}
	return 3 * g.Inodes
}

// firstFree is First in the chapter's words.
func firstFree(p api.Load, g api.Geom, k kind, from int) int {
	for i := range room(g, k) {
		if i >= from && !isSet(p, k, i) {
			return i
		}
	}
	return -1
}

// 9.1: a head's load has its group's number first, all else is noughts.
func TestHead(t *testing.T) {
	for group := range 8 {
		want := api.Load{byte(group)}
		if p, e := maps.Head(group); p != want || e != api.OK {
			t.Errorf("head of %d: %v, error %d, want %v", group, p, e, want)
		}
	}
}

// noGroups are groups that may not be; cut to a byte, two or four, some of them would.
func noGroups() []int {
	return []int{-1, 8, 9, 255, 256, 257, 65535, 65536, -65536, 1 << 32, math.MinInt, math.MinInt + 1, math.MaxInt}
}

// 9.1: Head tells ErrArg of a group that may not be, and nothing else; nothing is such a group's head.
func TestNoGroup(t *testing.T) {
	for _, group := range noGroups() {
		if p, e := maps.Head(group); p != (api.Load{}) || e != api.ErrArg {
			t.Errorf("head of %d: %v, error %d, want noughts, error 2", group, p, e)
		}
		l := append(loads(), api.Load{byte(group), byte(group >> 8)}, api.Load{1}, api.Load{7})
		for _, p := range l {
			if maps.HeadRight(p, group) {
				t.Errorf("%v is the head of group %d", p, group)
			}
		}
	}
}

// 9.1: a head is right of its own group, and of no other one.
func TestHeadRight(t *testing.T) {
	for is := range 256 {
		for group := range 8 {
			if got := maps.HeadRight(api.Load{byte(is)}, group); got != (is == group) {
				t.Errorf("the head of %d is right of %d: %v", is, group, got)
			}
		}
	}
}

// 9.1: a head with any byte wrong is not right.
func TestHeadRightOneByte(t *testing.T) {
	for group := range 8 {
		for i := range api.Payload {
			for x := 1; x < 256; x++ {
				p := api.Load{byte(group)}
				p[i] ^= byte(x)
				if maps.HeadRight(p, group) {
					t.Errorf("group %d, byte %d turned by %d: right", group, i, x)
				}
			}
		}
		if maps.HeadRight(full(), group) || maps.HeadRight(api.Load{0, byte(group), 1}, group) {
			t.Errorf("group %d: a load of something else is right", group)
		}
	}
}

// 9.1: the chapter's example.
func TestExample(t *testing.T) {
	want := api.Load{17: 2}
	p, e := maps.With(api.Load{}, api.KindInode, 9, true)
	if p != want || e != api.OK {
		t.Errorf("with inode 9: %v, error %d, want %v", p, e, want)
	}
}

// edge is the first or the last bit of a byte of the maps.
type edge struct {
	kind, i, at int
	mask        byte
}

// edges are those of all nineteen bytes, written out, so that no shared slip of code and test hides.
func edges() []edge {
	return []edge{
		{0, 0, 0, 1}, {0, 7, 0, 128}, {0, 8, 1, 1}, {0, 15, 1, 128}, {0, 16, 2, 1}, {0, 23, 2, 128},
		{0, 24, 3, 1}, {0, 31, 3, 128}, {0, 32, 4, 1}, {0, 39, 4, 128}, {0, 40, 5, 1}, {0, 47, 5, 128},
		{0, 48, 6, 1}, {0, 55, 6, 128}, {0, 56, 7, 1}, {0, 63, 7, 128}, {0, 64, 8, 1}, {0, 71, 8, 128},
		{0, 72, 9, 1}, {0, 79, 9, 128}, {0, 80, 10, 1}, {0, 87, 10, 128}, {0, 88, 11, 1}, {0, 95, 11, 128},
		{0, 96, 12, 1}, {0, 103, 12, 128}, {0, 104, 13, 1}, {0, 111, 13, 128}, {0, 112, 14, 1}, {0, 119, 14, 128},
		{0, 120, 15, 1}, {0, 127, 15, 128},
		{4, 0, 16, 1}, {4, 7, 16, 128}, {4, 8, 17, 1}, {4, 15, 17, 128}, {4, 16, 18, 1}, {4, 23, 18, 128},
	}
}

// 9.1: the first and the last bit of each byte: where it lies, set, and asked for.
func TestEdgesOfBytes(t *testing.T) {
	for _, c := range edges() {
		if at, e := maps.Byte(c.kind, c.i); at != c.at || e != api.OK {
			t.Errorf("kind %d, byte of %d: %d, error %d, want %d", c.kind, c.i, at, e, c.at)
		}
		var want api.Load
		want[c.at] = c.mask
		if p, e := maps.With(api.Load{}, c.kind, c.i, true); p != want || e != api.OK {
			t.Errorf("kind %d, with %d: %v, error %d, want %v", c.kind, c.i, p, e, want)
		}
		if is, e := maps.Taken(want, c.kind, c.i); !is || e != api.OK {
			t.Errorf("kind %d, %d is taken: %v, error %d", c.kind, c.i, is, e)
		}
		rest := full()
		rest[c.at] ^= c.mask
		if is, e := maps.Taken(rest, c.kind, c.i); is || e != api.OK {
			t.Errorf("kind %d, %d is taken, where all others are: %v, error %d", c.kind, c.i, is, e)
		}
		if p, e := maps.With(full(), c.kind, c.i, false); p != rest || e != api.OK {
			t.Errorf("kind %d, without %d: %v, error %d, want %v", c.kind, c.i, p, e, rest)
		}
	}
}

// 9.1: of each place: in which byte it lies, whether it is taken, and the load with it so or so.
func TestPlaces(t *testing.T) {
	for _, k := range kinds() {
		for i := range k.most {
			if at, e := maps.Byte(k.kind, i); at != k.at+i/8 || e != api.OK {
				t.Errorf("kind %d, byte of %d: %d, error %d", k.kind, i, at, e)
			}
			for _, p := range loads() {
				was := isSet(p, k, i)
				if is, e := maps.Taken(p, k.kind, i); is != was || e != api.OK {
					t.Errorf("kind %d, %d of %v is taken: %v, error %d", k.kind, i, p, is, e)
				}
				if q, e := maps.With(p, k.kind, i, was); q != p || e != api.OK {
					t.Errorf("kind %d, %d of %v as it is: %v, error %d", k.kind, i, p, q, e)
				}
				if q, e := maps.With(p, k.kind, i, !was); q != turned(p, k, i) || e != api.OK {
					t.Errorf("kind %d, %d of %v turned: %v, error %d", k.kind, i, p, q, e)
				}
			}
		}
	}
}

// noPlace holds that Taken, With and Byte tell ErrArg, and nothing else.
func noPlace(t *testing.T, kind, i int) {
	t.Helper()
	for _, p := range loads() {
		if is, e := maps.Taken(p, kind, i); is || e != api.ErrArg {
			t.Errorf("kind %d, %d is taken: %v, error %d, want false, error 2", kind, i, is, e)
		}
		for _, on := range []bool{true, false} {
			if q, e := maps.With(p, kind, i, on); q != (api.Load{}) || e != api.ErrArg {
				t.Errorf("kind %d, with %d, %v: %v, error %d, want noughts, error 2", kind, i, on, q, e)
			}
		}
	}
	if at, e := maps.Byte(kind, i); at != 0 || e != api.ErrArg {
		t.Errorf("kind %d, byte of %d: %d, error %d, want 0, error 2", kind, i, at, e)
	}
}

// 9.1: places that there are not, and kinds without a map.
func TestNoPlace(t *testing.T) {
	for _, k := range kinds() {
		for _, i := range noPlaces(k.most) {
			noPlace(t, k.kind, i)
		}
	}
	for i := 24; i < 128; i++ { // places of data, not of inodes
		noPlace(t, api.KindInode, i)
	}
	for _, other := range otherKinds() {
		for _, i := range append(noPlaces(128), 0, 1, 23, 24, 127) {
			noPlace(t, other, i)
		}
	}
}

// free holds what Free tells against what is asked for.
func free(t *testing.T, p api.Load, g api.Geom, data, inodes int) {
	t.Helper()
	if a, b := maps.Free(p, g); a != data || b != inodes {
		t.Errorf("free of %v, %v: %d, %d, want %d, %d", p, g, a, b, data, inodes)
	}
}

// 9.2: what is free, written out; bits beyond the shape's places count for nothing.
func TestFreeByHand(t *testing.T) {
	g := shape(2, 1, 10)
	free(t, api.Load{}, g, 10, 3)
	free(t, full(), g, 0, 0)
	free(t, api.Load{3, 16: 4}, g, 8, 2)
	free(t, api.Load{0, 2, 16: 1}, g, 9, 2)
	free(t, api.Load{1: 252, 16: 248}, g, 10, 3)
	free(t, api.Load{0, 0, 255, 255, 255, 17: 255, 18: 255, 19: 255, 53: 255}, g, 10, 3)
	free(t, api.Load{}, shape(1, 1, 4), 4, 3)
	free(t, api.Load{}, shape(8, 8, 128), 128, 24)
	free(t, full(), shape(8, 8, 128), 0, 0)
	free(t, api.Load{15: 128, 18: 128}, shape(8, 8, 128), 127, 23)
	free(t, api.Load{15: 128, 18: 128}, shape(8, 7, 127), 127, 21)
}

// 9.2: what is free of all shapes, and of shapes with one place taken, or one free.
func TestFree(t *testing.T) {
	for _, g := range shapes() {
		for _, p := range loads() {
			n := [2]int{}
			for j, k := range kinds() {
				for i := range room(g, k) {
					if !isSet(p, k, i) {
						n[j]++
					}
				}
			}
			free(t, p, g, n[0], n[1])
		}
	}
	for _, g := range some() {
		data, inodes := kinds()[0], kinds()[1]
		for i := range data.most {
			in := min(max(g.Data-i, 0), 1) // 1 of a place that the shape has
			free(t, turned(api.Load{}, data, i), g, g.Data-in, 3*g.Inodes)
			free(t, turned(full(), data, i), g, in, 0)
		}
		for i := range inodes.most {
			in := min(max(3*g.Inodes-i, 0), 1)
			free(t, turned(api.Load{}, inodes, i), g, g.Data, 3*g.Inodes-in)
			free(t, turned(full(), inodes, i), g, 0, in)
		}
	}
}

// first holds what First tells against what is asked for.
func first(t *testing.T, p api.Load, g api.Geom, kind, from, want int) {
	t.Helper()
	if got := maps.First(p, g, kind, from); got != want {
		t.Errorf("first of %v, %v, kind %d, from %d: %d, want %d", p, g, kind, from, got, want)
	}
}

// 9.2: the first free place, written out.
func TestFirstByHand(t *testing.T) {
	g := shape(2, 1, 10)
	p := api.Load{3, 16: 5}           // 0 and 1 of data, 0 and 2 of inodes
	first(t, p, g, 0, math.MinInt, 2) // below 0
	first(t, p, g, 0, -1, 2)
	first(t, p, g, 0, 0, 2) // at a taken place
	first(t, p, g, 0, 1, 2)
	first(t, p, g, 0, 2, 2) // at a free one
	first(t, p, g, 0, 5, 5)
	first(t, p, g, 0, 9, 9)   // at the last one of the shape
	first(t, p, g, 0, 10, -1) // behind it
	first(t, p, g, 0, 127, -1)
	first(t, p, g, 0, 128, -1)
	first(t, p, g, 0, math.MaxInt, -1)
	first(t, p, g, 4, -5, 1)
	first(t, p, g, 4, 1, 1)
	first(t, p, g, 4, 2, -1) // the last one is taken
	first(t, p, g, 4, 3, -1)
	first(t, p, g, 4, math.MaxInt, -1)
	first(t, full(), g, 0, 0, -1)
	first(t, full(), g, 4, 0, -1)
	first(t, api.Load{255, 3}, g, 0, 0, -1) // the free ones lie beyond the shape's
	first(t, api.Load{16: 7}, g, 4, 0, -1)
	first(t, api.Load{255, 1}, g, 0, 0, 9) // over the end of a byte
	most := shape(8, 8, 128)
	first(t, api.Load{}, most, 0, 127, 127)
	first(t, api.Load{}, most, 0, 128, -1)
	first(t, api.Load{}, most, 4, 23, 23)
	first(t, api.Load{}, most, 4, 24, -1)
	first(t, api.Load{16: 255, 17: 255, 18: 127}, most, 4, 0, 23)
	least := shape(1, 1, 4)
	first(t, api.Load{7}, least, 0, 0, 3)
	first(t, api.Load{15}, least, 0, 0, -1)
	first(t, api.Load{16: 3}, least, 4, 0, 2)
}

// 9.2: the first free place, from everywhere on; of one free place alone too.
func TestFirst(t *testing.T) {
	for _, g := range some() {
		for _, k := range kinds() {
			l := loads()
			for i := range k.most {
				l = append(l, turned(full(), k, i))
			}
			for _, p := range l {
				for from := -9; from < k.most+9; from++ {
					first(t, p, g, k.kind, from, firstFree(p, g, k, from))
				}
				for _, from := range []int{math.MinInt, math.MinInt + 1, math.MaxInt - 1, math.MaxInt} {
					first(t, p, g, k.kind, from, firstFree(p, g, k, from))
				}
			}
		}
	}
}

// 9.2: of a kind without a map there is no place.
func TestFirstOfOtherKinds(t *testing.T) {
	for _, other := range otherKinds() {
		for _, p := range loads() {
			for _, g := range some() {
				for _, from := range []int{math.MinInt, -1, 0, 3, math.MaxInt} {
					first(t, p, g, other, from, -1)
				}
			}
		}
	}
}

// clean holds what Clean tells against what is asked for.
func clean(t *testing.T, p api.Load, g api.Geom, want bool) {
	t.Helper()
	if got := maps.Clean(p, g); got != want {
		t.Errorf("%v, %v is clean: %v", p, g, got)
	}
}

// 9.2: loads that are clean, and some that are not, written out.
func TestCleanByHand(t *testing.T) {
	g := shape(2, 1, 10)
	clean(t, api.Load{}, g, true)
	clean(t, full(), g, false)
	clean(t, api.Load{255, 3, 16: 7}, g, true)
	clean(t, api.Load{255, 7, 16: 7}, g, false)
	clean(t, api.Load{255, 3, 16: 15}, g, false)
	clean(t, api.Load{0, 4}, g, false)
	clean(t, api.Load{16: 8}, g, false)
	clean(t, api.Load{2: 1}, g, false)
	clean(t, api.Load{15: 128}, g, false)
	clean(t, api.Load{17: 1}, g, false)
	clean(t, api.Load{18: 128}, g, false)
	clean(t, api.Load{19: 1}, g, false)
	clean(t, api.Load{53: 128}, g, false)
	clean(t, api.Load{15: 128, 18: 128}, shape(8, 8, 128), true)
	clean(t, full(), shape(8, 8, 128), false)
}

// all is a load with just the shape's places taken.
func all(g api.Geom) api.Load {
	var p api.Load
	for _, k := range kinds() {
		for i := range room(g, k) {
			p = turned(p, k, i)
		}
	}
	return p
}

// 9.2: of all shapes each bit of a load, alone, and turned where all places are taken, is clean at a place alone.
func TestClean(t *testing.T) {
	whole := kind{most: 8 * api.Payload}
	for _, g := range shapes() {
		places := all(g)
		clean(t, api.Load{}, g, true)
		clean(t, places, g, true)
		for i := range whole.most {
			want := isSet(places, whole, i)
			clean(t, turned(api.Load{}, whole, i), g, want)
			clean(t, turned(places, whole, i), g, want)
		}
	}
}

// 9.2: each value of each byte that has no place.
func TestCleanOtherBytes(t *testing.T) {
	for _, g := range some() {
		for i := 19; i < api.Payload; i++ {
			for x := 1; x < 256; x++ {
				p := all(g)
				p[i] = byte(x)
				clean(t, p, g, false)
			}
		}
	}
}

// 9.2: of a shape that may not be nothing is free, and nothing clean.
func TestNoShape(t *testing.T) {
	for _, g := range noShapes() {
		for _, p := range loads() {
			free(t, p, g, 0, 0)
			clean(t, p, g, false)
			for _, kind := range append(otherKinds(), 0, 4) {
				for _, from := range []int{math.MinInt, -1, 0, 1, 3, 23, 127, math.MaxInt} {
					first(t, p, g, kind, from, -1)
				}
			}
		}
	}
}

// told is which places are taken, of data and behind them of inodes.
func told(t *testing.T, p api.Load) [152]bool {
	t.Helper()
	var l [152]bool
	for j := range l {
		kind, i := api.KindRaw, j
		if j >= 128 {
			kind, i = api.KindInode, j-128
		}
		is, e := maps.Taken(p, kind, i)
		if e != api.OK {
			t.Fatalf("kind %d, %d is taken: error %d", kind, i, e)
		}
		l[j] = is
	}
	return l
}

// 9.3: a place that is taken, and given back, leaves the load as it was, if it was free; no other place is changed.
func TestOne(t *testing.T) {
	for _, p := range loads() {
		was := told(t, p)
		for j := range was {
			kind, i := api.KindRaw, j
			if j >= 128 {
				kind, i = api.KindInode, j-128
			}
			q, e := maps.With(p, kind, i, true)
			want := was
			want[j] = true
			if e != api.OK || told(t, q) != want {
				t.Errorf("kind %d, %d of %v, taken: %v, error %d", kind, i, p, q, e)
			}
			r, e := maps.With(q, kind, i, false)
			want[j] = false
			if e != api.OK || told(t, r) != want {
				t.Errorf("kind %d, %d of %v, given back: %v, error %d", kind, i, p, r, e)
			}
			if (r == p) == was[j] {
				t.Errorf("kind %d, %d of %v, taken before: %v; taken and given back: %v", kind, i, p, was[j], r)
			}
		}
	}
}

// 9.3: what is free, and the first of it, goes with the place.
func TestOneIsCounted(t *testing.T) {
	for _, g := range some() {
		for _, k := range kinds() {
			p, n := api.Load{}, [2]int{g.Data, 3 * g.Inodes}
			for i := range room(g, k) {
				first(t, p, g, k.kind, 0, i)
				p, _ = maps.With(p, k.kind, i, true)
				n[k.at/16]--
				free(t, p, g, n[0], n[1])
				clean(t, p, g, true)
			}
			first(t, p, g, k.kind, 0, -1)
			for i := range room(g, k) {
				p, _ = maps.With(p, k.kind, i, false)
				first(t, p, g, k.kind, 0, 0)
			}
			if p != (api.Load{}) {
				t.Errorf("%v, kind %d: all given back leaves %v", g, k.kind, p)
			}
		}
	}
}
