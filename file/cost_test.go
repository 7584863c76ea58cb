package file_test

import (
	"math"
	"testing"

	"scupper/api"
	"scupper/file"
)

// wantCost is Cost by the words: how many blocks and sectors of pointers are missing, of those that a stretch's ways pass.
func wantCost(has func(k int) bool, off, n int) int {
	blocks, tables := map[int]int{}, map[int]int{}
	var there [29]bool
	of := func(k int) []int {
		switch w := wayOf(k); len(w) {
		case 2:
			return []int{0}
		case 3:
			return []int{1, 2 + w[1]}
		}
		return nil
	}
	for k := range api.MaxBlocks {
		if has(k) {
			for _, t := range of(k) {
				there[t] = true
			}
		}
	}
	for i := off; i < off+n; i++ {
		if k := i / 64; !has(k) {
			blocks[k]++
			for _, t := range of(k) {
				if !there[t] {
					tables[t]++
				}
			}
		}
	}
	return len(blocks) + len(tables)
}

// 21.1: bytes of an inode without blocks: those of one block, by its level, and of as many as may be written at once, over several levels; a sector of pointers that is missing for several blocks is taken once.
func TestCostOfNone(t *testing.T) {
	r := fresh(t, 9, blank(three))
	x := api.Inode{Kind: 1}
	for k, want := range map[int]int{0: 1, 3: 1, 4: 2, 30: 2, 31: 3, 57: 3, 58: 3, 759: 3} {
		r.costs(x, 64*k, 64, want)
		r.costs(x, 64*k+63, 1, want)
	}
	for _, c := range [][3]int{
		{0, 256, 4}, {0, 257, 6}, {63, 2, 2}, {64, 64, 1}, {64, 65, 2}, {255, 2, 3}, {256, 27 * 64, 28}, {255, 27*64 + 1, 29},
		{64*31 - 1, 2, 5}, {64 * 31, 27 * 64, 29}, {64 * 31, 27*64 + 1, 31}, {64*58 - 1, 2, 5}, {0, 4096, 68}, {1, 4096, 69}, {64 * 31, 4096, 68}, {64*31 + 1, 4096, 69},
		{64 * 57, 4096, 64 + 1 + 4}, {api.MaxSize - 4096, 4096, 64 + 1 + 3}, {api.MaxSize - 1, 1, 3},
	} {
		r.costs(x, c[0], c[1], c[2])
		r.same("the words", wantCost(func(int) bool { return false }, c[0], c[1]), c[2])
	}
	r.costs(x, 9, 0, 0)
	r.costs(x, api.MaxSize, 0, 0)
}

// 21.1: blocks that are there cost nothing, nor do sectors of pointers that are; whether the bytes end beyond the size plays no part.
func TestCostOfSome(t *testing.T) {
	for _, ks := range [][]int{{0, 1, 2, 3}, {1, 5}, {30, 3}, {31}, {57, 31}, {58, 4}, {85, 58, 2}, {759}, {0, 4, 31, 58, 59, 60}} {
		m := blank(one)
		f := m.file(1, 70, ks...)
		has := func(k int) bool { return f.block[k] != 0 }
		r := fresh(t, 9, m)
		r.leaves(func() {
			for k := range 100 {
				for _, n := range []int{1, 64, 65, 500, 2000, 4096} {
					for _, at := range []int{0, 1, 63} {
						r.costs(f.x, 64*k+at, n, wantCost(has, 64*k+at, n))
					}
				}
			}
			for _, n := range []int{1, 64, 65, 128, 4096} {
				r.costs(f.x, api.MaxSize-n, n, wantCost(has, api.MaxSize-n, n))
			}
		})
	}
	m, f := longest()
	r := fresh(t, 9, m)
	for off := 0; off < api.MaxSize; off += 4096 {
		r.costs(f.x, off, min(4096, api.MaxSize-off), 0)
	}
}

// 21.1: a sector of pointers that is there, but is not right, is not missing; the blocks behind it are.
func TestCostNotRight(t *testing.T) {
	for _, b := range wrong() {
		m := blank(one)
		m.l[5] = b
		r := fresh(t, 9, m)
		r.costs(api.Inode{Kind: 1, Single: 5}, 64*3, 64*4, 4)
		r.costs(api.Inode{Kind: 1, Single: 2000}, 64*3, 64*4, 4)
		r.costs(api.Inode{Kind: 1, Double: 5}, 64*31, 64*28, 28+2)
		r.costs(api.Inode{Kind: 1, Single: 6, Double: 5}, 64*30, 64*2, 2+1)
	}
}

// 21.1: 0 of what may not be: of a kind that is none, a place, a number, or bytes beyond what a file can have.
func TestCostMayNotBe(t *testing.T) {
	r := fresh(t, 9, blank(three))
	x := api.Inode{Kind: 1}
	r.leaves(func() {
		for _, s := range badStretches {
			r.costs(x, s[0], s[1], 0)
		}
		r.costs(x, api.MaxSize, 1, 0)
		r.costs(x, api.MaxSize-1, 2, 0)
		r.costs(x, api.MaxSize-4095, 4096, 0)
		r.costs(x, math.MaxInt, 1, 0)
		r.costs(x, math.MaxInt-1, 4096, 0)
		r.costs(x, api.MaxSize+1, 0, 0)
		r.costs(x, 0, 4097, 0)
		for kind := range 256 {
			want := 3
			if kind == 0 {
				want = 0
			}
			r.costs(api.Inode{Kind: uint8(kind)}, 0, 129, want)
		}
	})
}

// 21.1: it does not hang on what is free; nor on whether the inode is one of the volume's.
func TestCostWithoutSpace(t *testing.T) {
	m := blank(three)
	m.fill(0, 0)
	r := fresh(t, 9, m)
	r.costs(api.Inode{Kind: 2, Links: 255, Size: math.MaxUint32}, 0, 4096, 68)
	r.same("the same", file.Cost(r.v, r.inode(1), 64*31, 64), 3)
}
