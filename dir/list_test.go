package dir_test

import (
	"fmt"
	"slices"
	"strings"
	"testing"

	"scupper/api"
	"scupper/dir"
	"scupper/vol"
)

// 22.1, 22.2: the chapter's example: the first name costs a sector, and the size is 64 then.
func TestExample(t *testing.T) {
	r := fresh(t, 9, blank(one))
	r.has(1)
	r.costs(1, 1)
	r.adds(1, ent(97, "a"), 4, api.OK)
	r.same("the size", r.inode(1).Size, 64)
	r.has(1, ent(97, "a"))
	r.finds(1, "a", 97, api.OK)
	r.finds(1, "b", 0, api.ErrNoEnt)
	r.costs(1, 0)
}

// 22.1: the entries by rising blocks, and in these by slots, wherever the blocks' sectors lie.
func TestListOrder(t *testing.T) {
	m := blank(three)
	m.dir(5, 64*7, held{5, full(5)}, held{0, full(0)}, held{6, full(6)}, held{3, full(3)}, held{4, full(4)}, held{1, full(1)}, held{2, full(2)})
	r := fresh(t, 9, m)
	r.leaves(func() {
		r.has(5, nths(0, 28)...)
		for i := range 28 {
			r.finds(5, nth(i).Name, nth(i).Ino, api.OK)
		}
		r.finds(5, "n28", 0, api.ErrNoEnt)
		r.finds(5, "n", 0, api.ErrNoEnt)
	})
}

// 22.1: names lie ahead of the size: blocks behind it have none, at all levels and borders.
func TestListSize(t *testing.T) {
	ks := []int{0, 1, 3, 4, 5, 30, 31, 32, 57, 58, 759}
	m := blank(one)
	var blocks []held
	for _, k := range ks {
		blocks = append(blocks, held{k, full(k)})
	}
	f := m.dir(2, 0, blocks...)
	for n := range api.MaxBlocks + 1 {
		if n > 70 && n < 755 {
			continue
		}
		f.x.Size = uint32(64 * n)
		m.set(2, f.x)
		r := fresh(t, 9, m)
		var want []api.Entry
		for _, k := range ks {
			if k < n {
				want = append(want, nths(4*k, 4*k+4)...)
				r.finds(2, nth(4*k+3).Name, nth(4*k+3).Ino, api.OK)
			} else {
				r.finds(2, nth(4*k).Name, 0, api.ErrNoEnt)
			}
		}
		r.has(2, want...)
	}
}

// 22.1: of inodes that may not be: a block that begins ahead of the size has its names; the greatest size has no more blocks than the greatest file.
func TestListOddSize(t *testing.T) {
	m := blank(one)
	f := m.dir(2, 0, held{0, full(0)}, held{1, full(1)}, held{759, full(759)})
	for size, want := range map[uint32]int{0: 0, 1: 4, 63: 4, 64: 4, 65: 8, 128: 8, 759 * 64: 8} {
		f.x.Size = size
		m.set(2, f.x)
		r := fresh(t, 9, m)
		r.has(2, nths(0, want)...)
	}
	for _, size := range []uint32{759*64 + 1, 760 * 64, 761 * 64, 1 << 20, 1<<32 - 1} {
		f.x.Size = size
		m.set(2, f.x)
		r := fresh(t, 9, m)
		r.has(2, append(nths(0, 8), nths(759*4, 760*4)...)...)
	}
}

// 22.1: a block that is not there, or not right, or that leads beyond the disk, has no names; and so have those behind a sector of pointers that is not right.
func TestListHoles(t *testing.T) {
	build := func() (*image, *made) {
		m := blank(one)
		return m, m.dir(3, 64*60, held{1, full(1)}, held{2, full(2)}, held{4, full(4)}, held{6, full(6)}, held{31, full(31)}, held{58, full(58)}, held{59, full(59)})
	}
	without := func(ks ...int) []api.Entry {
		var l []api.Entry
		for _, k := range []int{1, 2, 4, 6, 31, 58, 59} {
			if !slices.Contains(ks, k) {
				l = append(l, nths(4*k, 4*k+4)...)
			}
		}
		return l
	}
	m, f := build()
	fresh(t, 9, m).has(3, without()...)
	for _, k := range []int{1, 6, 31, 59} {
		for _, b := range wrong(api.KindDir) {
			m, f = build()
			m.l[f.block[k]] = b
			r := fresh(t, 9, m)
			r.has(3, without(k)...)
			r.finds(3, nth(4*k).Name, 0, api.ErrNoEnt)
			r.finds(3, nth(4*58).Name, nth(4*58).Ino, api.OK)
		}
	}
	for i, gone := range map[int][]int{0: {4, 6}, 1: {31, 58, 59}, 2: {31}, 3: {58, 59}} {
		for _, b := range wrong(api.KindPtrs) {
			m, f = build()
			m.l[f.tables[i]] = b
			r := fresh(t, 9, m)
			r.has(3, without(gone...)...)
			r.finds(3, nth(4*gone[0]).Name, 0, api.ErrNoEnt)
		}
	}
	for _, none := range []uint16{0, 1, 2, 3, 4, 45, 46, 2048, 65535} {
		m, f = build()
		f.x.Direct[1] = none
		m.set(3, f.x)
		fresh(t, 9, m).has(3, without(1)...)
	}
}

// badSlots is slots that are neither empty nor right, by the words of chapter 12.
func badSlots() [][]byte {
	slot := func(ino, long int, name string) []byte {
		return padded(append(append(two(ino), byte(long)), name...), 13)
	}
	return [][]byte{
		slot(0, 1, "a"), slot(5, 0, ""), slot(5, 0, "a"), slot(5, 1, ""), slot(5, 2, "a"), slot(5, 1, "ab"), slot(5, 11, "abcdefghij"),
		slot(5, 1, "."), slot(5, 2, ".."), slot(5, 3, "a/b"), slot(5, 3, "a b"), slot(5, 2, "a\x7f"), slot(5, 255, "abcdefghij"),
		slot(0, 0, "a"), slot(0, 1, ""), slot(1, 0, ""), append(make([]byte, 12), 1),
	}
}

// 22.1: slots that are empty, right and bad beside each other: the right ones alone are names.
func TestListSlots(t *testing.T) {
	for n, bad := range badSlots() {
		for at := range 4 {
			m := blank(one)
			p := names(ent(1, "a"), ent(2, "b"), ent(3, "c"), ent(4, "d"))
			copy(p[13*at:], bad)
			q := names(ent(0, ""), ent(6, "f"))
			copy(q[26:], bad)
			m.dir(1, 128, held{0, p}, held{1, q})
			r := fresh(t, 9, m)
			want := []api.Entry{ent(1, "a"), ent(2, "b"), ent(3, "c"), ent(4, "d"), ent(6, "f")}
			r.has(1, slices.Delete(want, at, at+1)...)
			r.finds(1, string(rune('a'+at)), 0, api.ErrNoEnt)
			if t.Failed() {
				t.Fatalf("bad in way %d", n)
			}
		}
	}
	for mask := range 16 {
		m := blank(one)
		l := []api.Entry{ent(1, "a"), ent(2, "b"), ent(3, "c"), ent(4, "d")}
		var want []api.Entry
		for i := range l {
			if mask>>i&1 == 0 {
				l[i] = ent(0, "")
			} else {
				want = append(want, l[i])
			}
		}
		m.dir(1, 64, held{0, names(l...)})
		r := fresh(t, 9, m)
		r.has(1, want...)
		r.costs(1, len(want)/4)
	}
}

// 22.1: the names are those that the blocks have now, with patches over them, and of the size now.
func TestListNow(t *testing.T) {
	m := blank(one)
	f := m.dir(1, 64, held{0, full(0)}, held{1, full(1)})
	r := fresh(t, 9, m)
	r.patch(f.block[0], 13, api.KindDir, bytes13(ent(500, "new"))...)
	r.has(1, nth(0), ent(500, "new"), nth(2), nth(3))
	r.finds(1, "n1", 0, api.ErrNoEnt)
	r.finds(1, "new", 500, api.OK)
	r.patch(f.block[0], 0, api.KindDir, make([]byte, 26)...)
	r.has(1, nth(2), nth(3))
	r.patch(4, 2, api.KindInode, 128)
	r.has(1, append(nths(2, 4), nths(4, 8)...)...)
	r.patch(f.block[0], 60, api.KindRaw, 1) // it is not right any more
	r.has(1, nths(4, 8)...)
	r.patch(4, 0, api.KindInode, 1)
	r.lists(1, api.ErrNotDir)
	r.finds(1, "new", 0, api.ErrNotDir)
}

// 22.1: of two entries of one name, in one block or in two, the first one is found; both are listed.
func TestTwoOfOneName(t *testing.T) {
	m := blank(one)
	m.dir(1, 128, held{1, names(ent(9, "b"), ent(8, "a"), ent(7, "b"))}, held{0, names(ent(0, ""), ent(5, "c"), ent(6, "a"), ent(4, "a"))})
	r := fresh(t, 9, m)
	r.has(1, ent(5, "c"), ent(6, "a"), ent(4, "a"), ent(9, "b"), ent(8, "a"), ent(7, "b"))
	r.finds(1, "a", 6, api.OK)
	r.finds(1, "b", 9, api.OK)
	r.finds(1, "c", 5, api.OK)
}

// 22.1: a sector to which two pointers lead is both blocks.
func TestOneSectorTwice(t *testing.T) {
	m := blank(one)
	f := m.dir(1, 192, held{0, full(0)}, held{1, full(1)})
	f.x.Direct[2] = f.x.Direct[0]
	m.set(1, f.x)
	r := fresh(t, 9, m)
	r.has(1, append(nths(0, 8), nths(0, 4)...)...)
}

// 22.1: names of each length; a name is found by all its bytes alone.
func TestFindNames(t *testing.T) {
	m := blank(one)
	var blocks []held
	var want []api.Entry
	for n := 1; n <= 10; n++ {
		l := []api.Entry{ent(n, strings.Repeat("x", n)), ent(65535, strings.Repeat("~", n)), ent(256, "!"+strings.Repeat("x", n-1))}
		want = append(want, l...)
		blocks = append(blocks, held{n - 1, names(l...)})
	}
	m.dir(2, 640, blocks...)
	r := fresh(t, 9, m)
	r.has(2, want...)
	for _, e := range want {
		r.finds(2, e.Name, e.Ino, api.OK)
	}
	for _, none := range []string{"y", "xy", "X", "xxxxxxxxxy", "~x", "...", ".x"} {
		r.finds(2, none, 0, api.ErrNoEnt)
	}
}

// 22.1: the greatest directory: all its names, with caches of one sector and of many.
func TestListMost(t *testing.T) {
	m := blank(wide)
	m.dir(8, api.MaxSize, fulls(760)...)
	for _, size := range []int{1, 64} {
		r := fresh(t, size, m)
		r.has(8, nths(0, 3040)...)
		for _, i := range []int{0, 15, 16, 123, 124, 231, 232, 3039} {
			r.finds(8, nth(i).Name, nth(i).Ino, api.OK)
		}
		r.finds(8, "n3040", 0, api.ErrNoEnt)
		r.costs(8, 0)
		r.leaves(func() { r.adds(8, ent(1, "x"), 0, api.ErrBig) })
	}
}

// 22.1: directories beside each other have their own names; a name may be in several.
func TestSeveral(t *testing.T) {
	m := blank(three)
	for ino := 1; ino <= 9; ino++ {
		m.dir(ino, 64, held{0, names(ent(ino, "a"), ent(10+ino, fmt.Sprint("b", ino)))})
	}
	r := fresh(t, 9, m)
	for ino := 1; ino <= 9; ino++ {
		r.has(ino, ent(ino, "a"), ent(10+ino, fmt.Sprint("b", ino)))
		r.finds(ino, "a", ino, api.OK)
		r.finds(ino, fmt.Sprint("b", 1+ino%9), 0, api.ErrNoEnt)
	}
}

// 22.1, P1: what is listed is the caller's own.
func TestListIsTheCallers(t *testing.T) {
	m := blank(one)
	m.dir(1, 64, held{0, full(0)})
	r := fresh(t, 9, m)
	l, _ := dir.List(r.v, 1)
	clear(l)
	r.has(1, nths(0, 4)...)
}

// 22.1: Cost: nothing where there is a slot that is empty, in whatever block ahead of the size; else the block that is hung in behind the size, and the sectors of pointers that are missing ahead of it.
func TestCost(t *testing.T) {
	for n, want := range map[int]int{0: 1, 1: 1, 3: 1, 4: 2, 5: 1, 30: 1, 31: 3, 32: 1, 57: 1, 58: 2, 59: 1, 85: 2} {
		m := blank(wide)
		m.dir(2, 64*n, fulls(n)...)
		r := fresh(t, 9, m)
		r.leaves(func() { r.costs(2, want) })
		for _, k := range []int{0, n / 2, n - 1} {
			if n == 0 {
				continue
			}
			m := blank(wide)
			l := fulls(n)
			l[k].p = names(nth(0), nth(1), nth(2))
			m.dir(2, 64*n, l...)
			fresh(t, 9, m).costs(2, 0)
		}
	}
}

// 22.1: Cost of directories in which blocks are missing or not right: these have no slot, and no place is behind the size but the first.
func TestCostHoles(t *testing.T) {
	empty := names()
	m := blank(one)
	m.dir(1, 64*3)                                      // no block at all
	m.dir(2, 64*2, held{0, full(0)}, held{2, empty})    // room behind the size alone, where the block is there
	f := m.dir(3, 64*2, held{0, empty}, held{1, empty}) // room in blocks that are not right
	for _, sector := range f.block {
		m.l[sector][60] ^= 1
	}
	r := fresh(t, 9, m)
	r.costs(1, 1)
	r.costs(2, 1)
	r.costs(3, 1)
	for _, b := range wrong(api.KindPtrs) {
		m = blank(one)
		f = m.dir(1, 64*6, append(fulls(4), held{4, empty})...)
		m.l[f.tables[0]] = b
		g := m.dir(2, 64*60, held{31, empty}, held{58, full(58)})
		m.l[g.tables[2]] = b
		h := m.dir(3, 64*86, held{31, full(31)})
		m.l[h.tables[1]] = b
		r = fresh(t, 9, m)
		r.costs(1, 1)
		r.costs(2, 1)
		r.costs(3, 2)
	}
	p := names(ent(0, ""), ent(1, "a"), ent(2, "b"), ent(3, "c"))
	p[5] = 1 // a slot that is bad is no room
	m = blank(one)
	m.dir(1, 64, held{0, p})
	fresh(t, 9, m).costs(1, 1)
}

// 22.1: Cost is 0 of what is no directory, of an inode that there is not or that can't be told, and behind the last block.
func TestCostNone(t *testing.T) {
	m := blank(three)
	m.set(2, api.Inode{Kind: api.InodeFile})
	m.set(3, api.Inode{})
	m.set(7, api.Inode{Kind: 3})
	m.set(8, api.Inode{Kind: api.InodeDir, Size: api.MaxSize})
	m.set(9, api.Inode{Kind: api.InodeDir, Size: 1<<32 - 64})
	m.l[16] = wrong(api.KindInode)[3]
	r := fresh(t, 9, m)
	for _, ino := range append([]int{2, 3, 4, 5, 6, 7, 8, 9}, noInodes...) {
		r.costs(ino, 0)
	}
	r.costs(1, 1)
}

// 22.1: what is a loss: a patch in the graph, of KindDir, by that inode, of 13 noughts, wherever it lies.
func TestLosses(t *testing.T) {
	m := blank(one)
	m.dir(1, 128, fulls(2)...)
	r := fresh(t, 9, m)
	sector := 20
	patch := func(kind, owner, child, off int, data []byte) int {
		id, e := r.v.Patch(api.Patch{At: sector, Off: off, Data: data, Kind: kind, Owner: owner, Child: child})
		r.same("Patch", e, api.OK)
		sector = 21
		return id
	}
	r.losses(1)
	noughts := make([]byte, 13)
	want := []int{patch(api.KindDir, 1, 0, 0, noughts)}
	for kind := range api.KindDir {
		patch(kind, 1, 0, 0, noughts)
	}
	patch(api.KindDir, 2, 1, 0, noughts)
	patch(api.KindDir, 0, 1, 0, noughts)
	want = append(want, patch(api.KindDir, 1, 2, 41, noughts))
	for _, n := range []int{1, 2, 12, 14, 26, 54} {
		patch(api.KindDir, 1, 0, 0, make([]byte, n))
	}
	for i := range 13 {
		b := make([]byte, 13)
		b[i] = 1
		patch(api.KindDir, 1, 0, 0, b)
	}
	want = append(want, patch(api.KindDir, 1, 0, 7, noughts))
	r.leaves(func() { r.losses(1, want...) })
	r.losses(2, want[0]+7)
	r.losses(3)
	r.settles(want[0])
	r.losses(1, want[1:]...)
	r.syncs()
	r.losses(1)
	r.losses(2)
}

// 22.1: losses are told by rising numbers; one that has settled is none; what is told is the caller's own.
func TestLossesOfTaken(t *testing.T) {
	m := blank(one)
	f := m.dir(1, 128, fulls(2)...)
	m.dir(2, 64, full2()...)
	r := fresh(t, 9, m)
	r.takes(1, "n6", 1, api.OK)
	r.takes(1, "n1", 2, api.OK)
	r.takes(2, "n0", 3, api.OK)
	r.takes(1, "n5", 4, api.OK, 2)
	r.losses(1, 1, 2, 4)
	r.losses(2, 3)
	clear(dir.Losses(r.v, 1))
	r.losses(1, 1, 2, 4)
	r.settles(2)
	r.losses(1, 1, 4)
	r.settles(3)
	r.losses(2)
	r.adds(1, ent(8, "x"), 5, api.OK, 4) // its needs have 4 twice
	r.is(5, added(f.block[0], 1, ent(8, "x"), 1, 4, 1, 4))
	r.losses(1, 1, 4)
	r.settles(5)
	r.losses(1)
}

// full2 is one block that is full.
func full2() []held { return fulls(1) }

// 22.1: a loss that is written, and not stable yet, is in the graph, and so a loss still.
func TestLossWritten(t *testing.T) {
	m := blank(one)
	f := m.dir(1, 128, fulls(2)...)
	r := fresh(t, 9, m)
	r.takes(1, "n1", 1, api.OK)
	r.patch(40, 0, 0, 1)
	r.s.Limit(1) // sector by sector, and then there is none for the next one
	r.same("Settle", r.v.Settle(1, 2), api.ErrDown)
	r.same("written", r.v.Graph().Written(), []int{1})
	r.losses(1, 1)
	r.s.Restore()
	r.adds(1, ent(3, "x"), 3, api.OK)
	r.is(3, added(f.block[0], 1, ent(3, "x"), 1, 1))
	r.syncs()
	r.losses(1)
	r.has(1, nth(0), ent(3, "x"), nth(2), nth(3), nth(4), nth(5), nth(6), nth(7))
}

// 22.1, P1: List and Find: an inode that there is not, one that is no directory, a text that is no name, a name that there is not, in this order; then that the inode's sector is not right. Nothing is changed.
func TestListErrors(t *testing.T) {
	m := blank(three)
	m.set(2, api.Inode{Kind: api.InodeFile, Size: 64})
	m.set(3, api.Inode{})
	m.set(7, api.Inode{Kind: 3})
	m.set(8, api.Inode{Kind: 255})
	m.dir(1, 64, fulls(1)...)
	for _, b := range wrong(api.KindInode) {
		m.l[16] = b
		r := fresh(t, 9, m)
		r.leaves(func() {
			for _, ino := range noInodes {
				r.lists(ino, api.ErrArg)
				for _, name := range append(noNames, "n0") {
					r.finds(ino, name, 0, api.ErrArg)
				}
			}
			for _, ino := range []int{2, 3, 7, 8} {
				r.lists(ino, api.ErrNotDir)
				for _, name := range append(noNames, "n0") {
					r.finds(ino, name, 0, api.ErrNotDir)
				}
			}
			for _, name := range noNames {
				r.finds(1, name, 0, api.ErrName)
				r.finds(4, name, 0, api.ErrName)
			}
			r.finds(1, "n", 0, api.ErrNoEnt)
			for ino := 4; ino <= 6; ino++ {
				r.lists(ino, api.ErrSeal)
				r.finds(ino, "n0", 0, api.ErrSeal)
				r.losses(ino)
			}
			r.has(1, nths(0, 4)...)
		})
	}
}

// P1: of a volume that is none ErrNil is told ahead of all, and no number.
func TestNil(t *testing.T) {
	r := &rig{t: t, v: (*vol.Vol)(nil)}
	for _, ino := range append([]int{1, 2}, noInodes...) {
		for _, name := range append(noNames, "a") {
			r.finds(ino, name, 0, api.ErrNil)
			r.takes(ino, name, 0, api.ErrNil, -1)
			for _, to := range append(noEntries, 1) {
				r.adds(ino, ent(to, name), 0, api.ErrNil, 5)
				r.turns(ino, name, to, 0, api.ErrNil, 5)
			}
		}
		r.lists(ino, api.ErrNil)
		r.costs(ino, 0)
		r.losses(ino)
	}
}
