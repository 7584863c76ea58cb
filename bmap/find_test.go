package bmap_test

import (
	"fmt"
	"math"
	"testing"

	"scupper/api"
	"scupper/bmap"
)

// wayOf is where block k is pointed to, by the words of chapter 11: of level 0 the inode's block, else the places in the sectors of pointers.
func wayOf(k int) []int {
	switch {
	case k < 4:
		return []int{k}
	case k < 31:
		return []int{4, k - 4}
	}
	return []int{5, (k - 31) / 27, (k - 31) % 27}
}

// full is a disk of one group, and an inode that has all blocks: block k in sector 1000 + k, which is none of the disk; sectors of pointers from 5 on.
func full() ([]api.Block, api.Inode) {
	g := api.Geom{Groups: 1, Inodes: 1, Data: 128}
	l := blank(g)
	x := api.Inode{Direct: [4]uint16{1000, 1001, 1002, 1003}, Single: 5, Double: 6}
	var tables [29]api.Load
	for k := 4; k < api.MaxBlocks; k++ {
		w := wayOf(k)
		if len(w) == 2 {
			copy(tables[0][2*w[1]:], two(1000+k))
			continue
		}
		copy(tables[1][2*w[1]:], two(7+w[1]))
		copy(tables[2+w[1]][2*w[2]:], two(1000+k))
	}
	for i, p := range tables {
		l[5+i] = sealed(api.KindPtrs, p)
	}
	return l, x
}

// oneGroup is the shape of the disk that full tells.
var oneGroup = api.Geom{Groups: 1, Inodes: 1, Data: 128}

// 20.1, 20.2: all blocks of the greatest file, by their ways, whatever a cache holds; each costs itself alone, since all that leads to it is there.
func TestAllBlocks(t *testing.T) {
	for _, size := range []int{1, 2, 40} {
		l, x := full()
		r := fresh(t, oneGroup, size, l)
		var want []bmap.Held
		for k := range api.MaxBlocks {
			r.finds(x, k, 1000+k, api.OK)
			r.costs(x, k, 1)
			want = append(want, bmap.Held{K: k, Sector: 1000 + k})
		}
		r.blocks(x, want...)
		tables := []int{5, 6}
		for i := range 27 {
			tables = append(tables, 7+i)
		}
		r.tables(x, tables...)
	}
}

// 20.1, 20.2: blocks that no file has.
func TestBig(t *testing.T) {
	l, x := full()
	r := fresh(t, oneGroup, 9, l)
	for _, k := range noBlocks {
		r.finds(x, k, 0, api.ErrBig)
		r.finds(api.Inode{}, k, 0, api.ErrBig)
		r.costs(x, k, 0)
		r.costs(api.Inode{}, k, 0)
	}
}

// 20.1, 20.2: of an inode without blocks: what is missing is the block, and what leads to it.
func TestNoBlocks(t *testing.T) {
	for _, g := range []api.Geom{three, one, least, great} {
		r := fresh(t, g, 9, blank(g))
		r.leaves(func() {
			for k := range api.MaxBlocks {
				r.finds(api.Inode{}, k, 0, api.OK)
				r.costs(api.Inode{}, k, len(wayOf(k)))
			}
			r.blocks(api.Inode{})
			r.tables(api.Inode{})
		})
	}
}

// 20.1: kind, links and size of an inode play no part.
func TestAnyInode(t *testing.T) {
	l := blank(one)
	l[6] = sealed(api.KindPtrs, table(map[int]int{3: 8}))
	r := fresh(t, one, 9, l)
	for _, x := range []api.Inode{{}, {Kind: 1}, {Kind: 2, Size: 64}, {Kind: 255, Links: 255, Size: math.MaxUint32}} {
		x.Direct[2], x.Single = 5, 6
		r.finds(x, 2, 5, api.OK)
		r.finds(x, 7, 8, api.OK)
		r.blocks(x, bmap.Held{K: 2, Sector: 5}, bmap.Held{K: 7, Sector: 8})
		r.tables(x, 6)
	}
}

// 20.1: a block is where its pointer says, be that a sector of data, another one, or none.
func TestAnyPointer(t *testing.T) {
	to := []int{1, 2, 3, 255, 256, 2047, 2048, 65535}
	l := blank(one)
	l[6] = sealed(api.KindPtrs, table(map[int]int{0: to[4], 25: to[5], 26: to[6]}))
	l[7] = sealed(api.KindPtrs, table(map[int]int{26: 8}))
	l[8] = sealed(api.KindPtrs, table(map[int]int{26: to[7]}))
	x := api.Inode{Single: 6, Double: 7}
	for i := range 4 {
		x.Direct[i] = uint16(to[i])
	}
	r := fresh(t, one, 9, l)
	var want []bmap.Held
	for i, k := range []int{0, 1, 2, 3, 4, 29, 30, 759} {
		r.finds(x, k, to[i], api.OK)
		want = append(want, bmap.Held{K: k, Sector: to[i]})
	}
	r.blocks(x, want...)
	r.tables(x, 6, 7, 8)
}

// 20.1: where a pointer on the way is 0 there is no block, at each level; others beside it are there.
func TestPointerIsZero(t *testing.T) {
	for gone := range api.MaxBlocks {
		if gone > 60 && gone%37 != 0 {
			continue
		}
		l, x := full()
		w := wayOf(gone)
		if len(w) == 1 {
			x.Direct[gone] = 0
		} else {
			at := 5
			if len(w) == 3 {
				at = 7 + w[1]
			}
			to := map[int]int{}
			for k := range api.MaxBlocks {
				if n := wayOf(k); len(n) == len(w) && n[len(n)-2] == w[len(w)-2] && k != gone {
					to[n[len(n)-1]] = 1000 + k
				}
			}
			l[at] = sealed(api.KindPtrs, table(to))
		}
		r := fresh(t, oneGroup, 40, l)
		for _, k := range []int{gone - 1, gone + 1} {
			if k >= 0 && k < api.MaxBlocks {
				r.finds(x, k, 1000+k, api.OK)
			}
		}
		r.finds(x, gone, 0, api.OK)
		r.costs(x, gone, 1)
		r.same("how many blocks", len(bmap.Blocks(r.v, x)), api.MaxBlocks-1)
		r.same("how many tables", len(bmap.Tables(r.v, x)), 29)
	}
}

// 20.1, 20.2: without Single, without Double, and without one of the sectors to which Double leads.
func TestTableIsMissing(t *testing.T) {
	l, x := full()
	r := fresh(t, oneGroup, 40, l)
	y := x
	y.Single = 0
	r.finds(y, 4, 0, api.OK)
	r.finds(y, 30, 0, api.OK)
	r.finds(y, 3, 1003, api.OK)
	r.finds(y, 31, 1031, api.OK)
	r.costs(y, 4, 2)
	r.costs(y, 30, 2)
	r.same("blocks", fmt.Sprint(len(bmap.Blocks(r.v, y)), bmap.Blocks(r.v, y)[4]), "733 {31 1031}")
	r.same("tables", bmap.Tables(r.v, y)[:3], []int{6, 7, 8})
	y = x
	y.Double = 0
	r.finds(y, 30, 1030, api.OK)
	r.finds(y, 31, 0, api.OK)
	r.finds(y, 759, 0, api.OK)
	r.costs(y, 31, 3)
	r.costs(y, 759, 3)
	r.same("blocks", len(bmap.Blocks(r.v, y)), 31)
	r.tables(y, 5)
	r.patch(6, 2*12, api.KindPtrs, 0, 0)
	first := 31 + 12*27
	r.finds(x, first-1, 1000+first-1, api.OK)
	r.finds(x, first, 0, api.OK)
	r.finds(x, first+26, 0, api.OK)
	r.finds(x, first+27, 1000+first+27, api.OK)
	r.costs(x, first, 2)
	r.costs(x, first+26, 2)
	r.same("blocks", len(bmap.Blocks(r.v, x)), 733)
	r.same("tables", bmap.Tables(r.v, x)[12:16], []int{17, 18, 20, 21})
}

// 20.1, 20.2: a sector of pointers that is not right, or that is none: there are no blocks behind it, and it is a sector of pointers of the inode all the same: it is not missing, but those behind it are.
func TestNotRight(t *testing.T) {
	for n, b := range wrong() {
		for _, at := range []int{5, 6, 7 + 9} {
			l, x := full()
			l[at] = b
			r := fresh(t, oneGroup, 40, l)
			r.leaves(func() { r.without(x, at) })
			if t.Failed() {
				t.Fatalf("sector %d, wrong in way %d", at, n)
			}
		}
	}
	for _, none := range []uint16{1, 2, 3, 4, 133, 134, 2047, 2048, 65535} {
		l, x := full()
		r := fresh(t, oneGroup, 40, l)
		y := x
		y.Single = none
		r.finds(y, 4, 0, api.OK)
		r.costs(y, 4, 1)
		r.costs(y, 30, 1)
		r.costs(y, 31, 1)
		r.same("blocks", len(bmap.Blocks(r.v, y)), 733)
		r.same("tables", bmap.Tables(r.v, y)[:3], []int{int(none), 6, 7})
		y = x
		y.Double = none
		r.finds(y, 31, 0, api.OK)
		r.costs(y, 31, 2)
		r.costs(y, 759, 2)
		r.costs(y, 30, 1)
		r.same("blocks", len(bmap.Blocks(r.v, y)), 31)
		r.tables(y, 5, int(none))
		r.patch(6, 2*5, api.KindPtrs, two(int(none))...)
		r.finds(x, 31+5*27, 0, api.OK)
		r.costs(x, 31+5*27, 1)
		r.costs(x, 31+6*27-1, 1)
		r.same("blocks", len(bmap.Blocks(r.v, x)), 733)
		r.same("tables", bmap.Tables(r.v, x)[5:9], []int{10, 11, int(none), 13})
	}
}

// without holds what is told of the file that has all blocks against that one of its sectors of pointers is not right.
func (r *rig) without(x api.Inode, at int) {
	r.t.Helper()
	var want []bmap.Held
	for k := range api.MaxBlocks {
		w := wayOf(k)
		behind := at == 5 && len(w) == 2 || at == 6 && len(w) == 3 || at > 6 && len(w) == 3 && w[1] == at-7
		if at == 6 && behind {
			r.costs(x, k, 2) // what Double's sector led to is missing
		} else {
			r.costs(x, k, 1)
		}
		if behind {
			r.finds(x, k, 0, api.OK)
			continue
		}
		r.finds(x, k, 1000+k, api.OK)
		want = append(want, bmap.Held{K: k, Sector: 1000 + k})
	}
	r.blocks(x, want...)
	tables := []int{5, 6}
	for i := range 27 {
		if at != 6 {
			tables = append(tables, 7+i)
		}
	}
	r.tables(x, tables...)
}

// 20.1: whether a sector of pointers is right, and what it has, is asked of what it is now: patches that are not written make it right, wrong, and other than it was.
func TestAsPatchesMakeIt(t *testing.T) {
	r := fresh(t, one, 9, blank(one))
	x := api.Inode{Single: 6, Double: 7}
	r.finds(x, 4, 0, api.OK)
	r.costs(x, 4, 1)
	r.costs(x, 759, 2)
	r.patch(6, 0, api.KindPtrs, two(300)...)
	r.finds(x, 4, 300, api.OK)
	r.costs(x, 4, 1)
	r.finds(x, 5, 0, api.OK)
	r.costs(x, 5, 1)
	r.patch(7, 52, api.KindPtrs, 8)
	r.costs(x, 759, 1)
	r.patch(8, 2, api.KindPtrs, 0, 1)
	r.finds(x, 31+26*27+1, 256, api.OK)
	r.costs(x, 759, 1)
	r.costs(x, 31, 2)
	for range 2 {
		r.blocks(x, bmap.Held{K: 4, Sector: 300}, bmap.Held{K: 734, Sector: 256})
		r.tables(x, 6, 7, 8)
		r.syncs()
	}
	r.patch(6, 0, api.KindPtrs, 9, 0)
	r.patch(8, 60, 0, 1, 2)
	r.finds(x, 4, 9, api.OK)
	r.finds(x, 734, 0, api.OK)
	r.costs(x, 734, 1)
	r.patch(6, 0, api.KindDir, 9, 0)
	r.finds(x, 4, 0, api.OK)
	r.blocks(x)
	r.tables(x, 6, 7, 8)
	r.patch(7, 60, 0, 1, 2)
	r.costs(x, 734, 2)
	r.costs(x, 759, 2)
	r.tables(x, 6, 7)
}

// 20.1: what lies in sector 0 is asked by no pointer that is 0, though it were right as a sector of pointers; sector 1 may be one.
func TestSectorZero(t *testing.T) {
	for at := range 2 {
		l := blank(one)
		l[at] = sealed(api.KindPtrs, table(map[int]int{0: 9, 1: 10}))
		r := fresh(t, one, 9, l)
		r.finds(api.Inode{}, 4, 0, api.OK)
		r.finds(api.Inode{}, 31, 0, api.OK)
		r.costs(api.Inode{}, 4, 2)
		r.costs(api.Inode{}, 31, 3)
		r.blocks(api.Inode{})
		r.tables(api.Inode{})
		x := api.Inode{Single: 1}
		if at == 1 {
			r.finds(x, 4, 9, api.OK)
			r.costs(x, 6, 1)
			r.blocks(x, bmap.Held{K: 4, Sector: 9}, bmap.Held{K: 5, Sector: 10})
		} else {
			r.finds(x, 4, 0, api.OK)
			r.costs(x, 6, 1)
			r.costs(api.Inode{Double: 1}, 31, 2)
		}
		r.tables(x, 1)
	}
}

// 20.1: sectors of pointers that are there more than once, or that lead to themselves, are told as often as pointers lead to them, and it ends.
func TestInCircles(t *testing.T) {
	l := blank(one)
	l[6] = sealed(api.KindPtrs, table(map[int]int{1: 6, 3: 7, 4: 6}))
	l[7] = sealed(api.KindPtrs, table(map[int]int{0: 9}))
	r := fresh(t, one, 9, l)
	x := api.Inode{Single: 6, Double: 6}
	var want []bmap.Held
	for _, b := range [][2]int{{5, 6}, {7, 7}, {8, 6}, {59, 6}, {61, 7}, {62, 6}, {112, 9}, {140, 6}, {142, 7}, {143, 6}} {
		r.finds(x, b[0], b[1], api.OK)
		want = append(want, bmap.Held{K: b[0], Sector: b[1]})
	}
	r.blocks(x, want...)
	r.tables(x, 6, 6, 6, 7, 6)
}

// 20.1, 20.2: what is told is the caller's own, and the same each time.
func TestToldAnew(t *testing.T) {
	l, x := full()
	r := fresh(t, oneGroup, 9, l)
	for range 2 {
		b, a := bmap.Blocks(r.v, x), bmap.Tables(r.v, x)
		r.same("the first", []any{b[0], a[0]}, []any{bmap.Held{K: 0, Sector: 1000}, 5})
		b[0], a[0] = bmap.Held{}, 0
	}
}

// 20.1, 20.2: what is asked alone changes nothing, and takes no power.
func TestAsked(t *testing.T) {
	l, x := full()
	r := fresh(t, oneGroup, 40, l)
	r.patch(20, 0, api.KindPtrs, 1)
	r.s.Limit(0)
	r.leaves(func() {
		for _, k := range append(noBlocks, 0, 5, 40, 759) {
			bmap.Find(r.v, x, k)
			bmap.Cost(r.v, x, k)
		}
		bmap.Blocks(r.v, x)
		bmap.Tables(r.v, x)
	})
}

// 20.1, 20.2: of a volume that is none; ErrNil comes ahead of all else.
func TestNoVolume(t *testing.T) {
	r := &rig{t: t}
	x := api.Inode{Direct: [4]uint16{5}, Single: 6, Double: 7}
	for _, k := range append(noBlocks, 0, 4, 31) {
		r.finds(x, k, 0, api.ErrNil)
		r.costs(x, k, 0)
		for _, ino := range append(noInodes, 1) {
			r.puts(ino, k, bmap.Content{}, 0, 0, api.ErrNil)
			r.puts(ino, k, bmap.Content{Kind: 7}, 0, 0, api.ErrNil)
		}
	}
	r.blocks(x)
	r.tables(x)
}
