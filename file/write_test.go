package file_test

import (
	"math"
	"testing"

	"scupper/api"
	"scupper/file"
)

// 21.1: bytes within one block that is there: one patch of just these bytes, which needs nothing; the size is not set where they don't end beyond it.
func TestWriteWithinABlock(t *testing.T) {
	for _, k := range []int{0, 3, 4, 30, 31, 58} {
		for _, s := range [][2]int{{0, 1}, {0, 64}, {63, 1}, {10, 20}, {1, 63}} {
			m := blank(three)
			f := m.file(5, 64*100, k)
			r := fresh(t, 9, m)
			r.costs(f.x, 64*k+s[0], s[1], 0)
			free := r.free()
			r.writes(5, 64*k+s[0], text(s[1]), api.OK)
			r.are(1, raw(f.block[k], s[0], text(s[1]), 5))
			r.pending(1, 0)
			r.same("the inode", r.inode(5), f.x)
			r.same("free", r.free(), free)
			want := bytesFrom(64*k, 64)
			copy(want[s[0]:], text(s[1]))
			r.reads(5, 64*k, 64, want, api.OK)
			r.says(2, true)
			r.same("writes", r.d.Writes(), 0)
		}
	}
}

// 21.1: bytes over the ends of blocks that are there: a patch a block, from the front; each needs nothing.
func TestWriteOverBlocks(t *testing.T) {
	m := blank(three)
	f := m.file(5, 64*7, 5, 0, 4, 1, 2, 3)
	b := f.block
	r := fresh(t, 9, m)
	d := text(200)
	r.writes(5, 190, d[:3], api.OK)
	r.are(1, raw(b[2], 62, d[:2], 5), raw(b[3], 0, d[2:3], 5))
	r.writes(5, 64, d[:128], api.OK)
	r.are(3, raw(b[1], 0, d[:64], 5), raw(b[2], 0, d[64:128], 5))
	r.writes(5, 200, d[:184], api.OK)
	r.are(5, raw(b[3], 8, d[:56], 5), raw(b[4], 0, d[56:120], 5), raw(b[5], 0, d[120:184], 5))
	want := append(append(bytesFrom(0, 64), d[:128]...), d[2])
	want = append(append(want, bytesFrom(193, 7)...), d[:184]...)
	r.reads(5, 0, 448, append(want, make([]byte, 64)...), api.OK)
}

// 21.1: where bytes end beyond the size that is set behind all, needing all patches of blocks; just at the size, or ahead of it, it is not.
func TestWriteSize(t *testing.T) {
	for _, was := range []int{0, 1, 64, 65, 99, 100, 101, 128} {
		m := blank(three)
		f := m.file(9, was, 0, 1)
		r := fresh(t, 9, m)
		d := text(90)
		r.writes(9, 10, d, api.OK)
		l := []api.Patch{raw(f.block[0], 10, d[:54], 9), raw(f.block[1], 0, d[54:], 9)}
		end := max(was, 100)
		if was < 100 {
			l = append(l, size(three, 9, 100, 1, 2))
		}
		r.are(1, l...)
		f.x.Size = uint32(end)
		r.same("the inode", r.inode(9), f.x)
		want := append(bytesFrom(0, 10), d...)
		r.reads(9, 0, 200, append(want, bytesFrom(100, end-100)...), api.OK)
	}
}

// 21.1: where no block is one is hung in with the bytes, and noughts around; the size needs the patch of its pointer.
func TestWriteHungIn(t *testing.T) {
	for _, s := range [][2]int{{0, 1}, {0, 64}, {63, 1}, {10, 20}, {1, 63}} {
		r := fresh(t, 9, blank(three))
		d := text(s[1])
		r.writes(5, 128+s[0], d, api.OK)
		whole := make([]byte, 64)
		copy(whole[s[0]:], d)
		r.are(1, bit(three, 1, 0, 1), raw(17, 0, whole, 5), set(three, 5, 10, two(17), 1, 2), size(three, 5, 128+s[0]+s[1], 3))
		r.same("the inode", r.inode(5), api.Inode{Kind: 1, Size: uint32(128 + s[0] + s[1]), Direct: [4]uint16{2: 17}})
		r.reads(5, 0, 500, append(make([]byte, 128), whole[:s[0]+s[1]]...), api.OK)
		r.same("free", r.free(), 26)
	}
}

// 21.1: a block that is missing ahead of the size: it is hung in, and the size is not set.
func TestWriteIntoAHole(t *testing.T) {
	m := blank(three)
	f := m.file(5, 64*4, 0, 2)
	r := fresh(t, 9, m)
	r.writes(5, 64, text(64), api.OK)
	r.are(1, bit(three, 1, 0, 7), raw(19, 0, text(64), 5), set(three, 5, 8, two(19), 1, 2))
	f.x.Direct[1] = 19
	r.same("the inode", r.inode(5), f.x)
	want := append(bytesFrom(0, 64), text(64)...)
	r.reads(5, 0, 256, append(append(want, bytesFrom(128, 64)...), make([]byte, 64)...), api.OK)
}

// 21.1: blocks that are there and such as are not, beside each other, from the front; the size needs one patch a block, and no others.
func TestWriteSomeThere(t *testing.T) {
	m := blank(three)
	f := m.file(5, 130, 1, 3)
	r := fresh(t, 9, m)
	d := text(64*3 + 10)
	r.writes(5, 40, d, api.OK)
	r.are(1,
		bit(three, 1, 0, 7), raw(19, 0, append(make([]byte, 40), d[:24]...), 5), set(three, 5, 6, two(19), 1, 2),
		raw(f.block[1], 0, d[24:88], 5),
		bit(three, 1, 0, 15), raw(20, 0, d[88:152], 5), set(three, 5, 10, two(20), 5, 6),
		raw(f.block[3], 0, d[152:], 5),
		size(three, 5, 242, 3, 4, 7, 8))
	want := append(make([]byte, 40), d...)
	r.reads(5, 0, 300, want, api.OK)
	r.syncs()
	r.reads(5, 0, 300, want, api.OK)
}

// 21.1: over the first four blocks' end: the sector of pointers is hung in with the first block behind it, and there for the next one.
func TestWriteToSingle(t *testing.T) {
	r := fresh(t, 9, blank(three))
	d := text(66 + 64)
	r.writes(5, 255, d, api.OK)
	r.are(1,
		bit(three, 1, 0, 1), raw(17, 0, append(make([]byte, 63), d[0]), 5), set(three, 5, 12, two(17), 1, 2),
		bit(three, 1, 0, 3), raw(18, 0, d[1:65], 5), bit(three, 1, 0, 7), hop(19, 0, 18, 5, 4, 5), set(three, 5, 14, two(19), 6, 7),
		bit(three, 1, 0, 15), raw(20, 0, d[65:129], 5), leads(19, 1, 20, 5, 9, 10),
		bit(three, 1, 0, 31), raw(21, 0, padded(d[129:], 64), 5), leads(19, 2, 21, 5, 12, 13),
		size(three, 5, 385, 3, 8, 11, 14))
	r.reads(5, 250, 999, append(make([]byte, 5), d...), api.OK)
}

// 21.1: over the end of what Single leads to: both sectors of pointers are hung in with the first block behind; and over the end of one of Double's.
func TestWriteToDouble(t *testing.T) {
	r := fresh(t, 9, blank(one))
	d := text(2)
	r.writes(2, 64*31-1, d, api.OK)
	r.are(1,
		bit(one, 0, 0, 1), raw(5, 0, append(make([]byte, 63), d[0]), 2), bit(one, 0, 0, 3), hop(6, 26, 5, 2, 1, 2), set(one, 2, 14, two(6), 3, 4),
		bit(one, 0, 0, 7), raw(7, 0, padded(d[1:], 64), 2), bit(one, 0, 0, 15), hop(8, 0, 7, 2, 6, 7), bit(one, 0, 0, 31), hop(9, 0, 8, 2, 8, 9), set(one, 2, 16, two(9), 10, 11),
		size(one, 2, 64*31+1, 5, 12))
	r.writes(2, 64*58-1, d, api.OK)
	r.are(14,
		bit(one, 0, 0, 63), raw(10, 0, append(make([]byte, 63), d[0]), 2), leads(8, 26, 10, 2, 14, 15),
		bit(one, 0, 0, 127), raw(11, 0, padded(d[1:], 64), 2), bit(one, 0, 0, 255), hop(12, 0, 11, 2, 17, 18), leads(9, 1, 12, 2, 19, 20),
		size(one, 2, 64*58+1, 16, 21))
	r.same("the inode", r.inode(2), api.Inode{Kind: 1, Size: 64*58 + 1, Single: 6, Double: 9})
	r.same("free", r.free(), 32)
	r.reads(2, 64*31-3, 5, []byte{0, 0, d[0], d[1], 0}, api.OK)
	r.reads(2, 64*58-3, 5, []byte{0, 0, d[0], d[1]}, api.OK)
}

// 21.1: sectors come from the inode's group on, and round, one behind the other.
func TestWriteOverGroups(t *testing.T) {
	m := blank(three)
	m.fill(0, 27-9-8)
	r := fresh(t, 9, m)
	r.writes(5, 0, text(150), api.OK)
	x := r.inode(5)
	r.same("the blocks", x.Direct, [4]uint16{25, 29, 30})
	r.writes(5, 150, text(64*9), api.ErrSpace)
	r.writes(5, 150, text(64*6), api.OK)
	r.same("free", r.free(), 0)
	r.says(6, true)
	r.reads(5, 0, 999, append(text(150), text(64*6)...), api.OK)
	// What is taken behind the last group comes from group 0 on.
	m = blank(three)
	m.fill(0, 1)
	m.l[3] = sealed(api.KindMaps, api.Load{0b11101111, 1, 16: 7})
	r = fresh(t, 9, m)
	r.writes(9, 0, text(100), api.OK)
	x = r.inode(9)
	r.same("the blocks", x.Direct, [4]uint16{37, 9})
	r.says(5, true)
}

// 21.1: as many bytes as may be written at once, and the last ones that a file can have, with all that is missing.
func TestWriteMost(t *testing.T) {
	m := blank(wide)
	r := fresh(t, 9, m)
	want := make([]byte, api.MaxSize)
	for _, off := range []int{api.MaxSize - 4096, 64*31 - 1900, 64*58 - 1, 0} {
		d := text(4096)
		free, cost := r.free(), file.Cost(r.v, r.inode(7), off, 4096)
		r.writes(7, off, d, api.OK)
		r.same("what was taken", free-r.free(), cost)
		copy(want[off:], d)
	}
	r.same("the size", r.inode(7).Size, api.MaxSize)
	for off := 0; off < api.MaxSize; off += 4096 {
		r.reads(7, off, 4096, want[off:min(off+4096, api.MaxSize)], api.OK)
	}
	r.syncs()
	for off := 0; off < api.MaxSize; off += 4096 {
		r.reads(7, off, 4096, want[off:min(off+4096, api.MaxSize)], api.OK)
	}
}

// 21.1: bytes over bytes: the later ones count, and each patch needs nothing, be the block's content stable or not.
func TestWriteAgain(t *testing.T) {
	r := fresh(t, 9, blank(three))
	r.writes(1, 0, text(10), api.OK)
	r.writes(1, 4, []byte{1, 2}, api.OK)
	r.is(5, raw(5, 4, []byte{1, 2}, 1))
	r.writes(1, 5, []byte{3}, api.OK)
	r.are(6, raw(5, 5, []byte{3}, 1))
	want := text(10)
	want[4], want[5] = 1, 3
	r.reads(1, 0, 99, want, api.OK)
	r.settles(6)
	r.reads(1, 0, 99, want, api.OK)
	r.syncs()
	r.writes(1, 9, []byte{7, 8}, api.OK)
	r.are(7, raw(5, 9, []byte{7, 8}, 1), size(three, 1, 11, 7))
	r.reads(1, 0, 99, append(want[:9], 7, 8), api.OK)
}

// 21.1: files beside each other; a directory's bytes are written likewise, and so are those of a kind that is none of api's.
func TestWriteOthers(t *testing.T) {
	m := blank(three)
	m.set(5, api.Inode{Kind: 2, Links: 1})
	m.set(6, api.Inode{Kind: 9, Links: 1})
	r := fresh(t, 9, m)
	for ino := 1; ino <= 9; ino++ {
		r.writes(ino, ino, text(60+ino), api.OK)
	}
	for ino := 1; ino <= 9; ino++ {
		r.reads(ino, 0, 999, append(make([]byte, ino), text(60+ino)...), api.OK)
		r.same("kind", r.inode(ino).Kind, []int{0, 1, 1, 1, 1, 2, 9, 1, 1, 1}[ino])
	}
}

// 21.1, P1: what is handed in is not changed, and nothing of it is kept.
func TestWriteKeepsNothing(t *testing.T) {
	m := blank(three)
	m.file(1, 64, 0)
	r := fresh(t, 9, m)
	d := text(100)
	r.writes(1, 3, d, api.OK)
	r.same("the bytes", d, text(100))
	clear(d)
	r.reads(1, 0, 999, append(bytesFrom(0, 3), text(100)...), api.OK)
}

// 21.1: nothing is done of no bytes, wherever; without power, too.
func TestWriteNoBytes(t *testing.T) {
	m := blank(three)
	m.file(1, 100, 0)
	m.fill(0, 0)
	r := fresh(t, 9, m)
	r.s.Limit(0)
	r.leaves(func() {
		for _, off := range []int{0, 1, 64, 99, 100, 101, 6400, api.MaxSize, api.MaxSize + 1, math.MaxInt} {
			r.writes(1, off, nil, api.OK)
			r.writes(1, off, []byte{}, api.OK)
		}
		r.writes(1, -1, nil, api.ErrArg)
		r.writes(0, 0, nil, api.ErrArg)
	})
	r.same("gone", r.s.Gone(), false)
}

// 21.1: fewer sectors are free than are taken: nothing is done; just as many: they are written. Blocks that are there, and sectors of pointers, don't count, and one of pointers counts once.
func TestWriteSpace(t *testing.T) {
	for _, c := range []struct{ off, n int }{{0, 1}, {0, 65}, {255, 2}, {256, 200}, {64*31 - 1, 2}, {64 * 31, 300}, {64*58 - 1, 2}, {api.MaxSize - 100, 100}, {10, 700}} {
		for _, ks := range [][]int{nil, {0, 4}, {31}, {0, 1, 5, 58}} {
			build := func() (*image, api.Inode) {
				m := blank(three)
				return m, m.file(5, 64*700, ks...).x
			}
			m, x := build()
			cost := file.Cost(fresh(t, 9, m).v, x, c.off, c.n)
			for left := range cost + 2 {
				m, _ := build()
				m.fill(2, left)
				r := fresh(t, 9, m)
				if left < cost {
					r.leaves(func() { r.writes(5, c.off, text(c.n), api.ErrSpace) })
					continue
				}
				r.writes(5, c.off, text(c.n), api.OK)
				r.same("free", r.free(), left-cost)
				if cost == 0 {
					r.says(2, true)
				}
				r.reads(5, c.off, c.n, text(c.n), api.OK)
			}
		}
	}
}

// 21.1: the errors in their order: ErrArg, of inode, place and bytes; ErrBig; that the inode can't be told; ErrSpace; ErrSeal. Nothing is done with any.
func TestWriteErrors(t *testing.T) {
	for _, full := range []bool{false, true} {
		m := spoilt()
		if full {
			m.fill(0, 0)
		}
		r := fresh(t, 9, m)
		many := make([]byte, api.MaxBytes+1)
		r.leaves(func() {
			for _, ino := range append(noInodes, 2) {
				for _, off := range []int{math.MinInt, -1, 0, api.MaxSize, math.MaxInt} {
					r.writes(ino, off, []byte{1}, api.ErrArg)
					r.writes(ino, off, nil, api.ErrArg)
					r.writes(ino, off, many, api.ErrArg)
				}
			}
			for _, ino := range []int{1, 3, 4} {
				r.writes(ino, -1, []byte{1}, api.ErrArg)
				r.writes(ino, math.MinInt, []byte{1}, api.ErrArg)
				r.writes(ino, 0, many, api.ErrArg)
				r.writes(ino, api.MaxSize, many, api.ErrArg)
				r.writes(ino, -1, many, api.ErrArg)
				r.writes(ino, api.MaxSize, []byte{1}, api.ErrBig)
				r.writes(ino, api.MaxSize-1, []byte{1, 2}, api.ErrBig)
				r.writes(ino, api.MaxSize-4095, many[1:], api.ErrBig)
				r.writes(ino, api.MaxSize+1, []byte{1}, api.ErrBig)
				r.writes(ino, math.MaxInt, many[1:], api.ErrBig)
			}
			r.writes(4, 0, []byte{1}, api.ErrSeal)
			r.writes(5, 0, nil, api.ErrSeal)
			for _, off := range []int{256, 64*31 - 1, 64 * 31, 64 * 700} {
				want := api.ErrSeal
				if full {
					want = api.ErrSpace
				}
				r.writes(3, off, []byte{1, 2}, want)
			}
			if full {
				r.writes(1, 250, text(9), api.ErrSpace)
			}
		})
		r.writes(1, 3, text(250), api.OK)
	}
}

// 21.1, P2: a sector of pointers that is not right on the way of one block, wherever it comes: ErrSeal, and nothing is done, not of the blocks ahead of it either.
func TestWriteNotRight(t *testing.T) {
	for _, b := range wrong() {
		m := blank(one)
		f := m.file(2, 64*90, 2, 3, 30, 31, 32, 58)
		m.l[f.tables[0]], m.l[f.tables[3]] = b, b
		r := fresh(t, 9, m)
		r.leaves(func() {
			r.writes(2, 128, text(129), api.ErrSeal)
			r.writes(2, 64, text(64*4), api.ErrSeal)
			r.writes(2, 256, text(1), api.ErrSeal)
			r.writes(2, 64*30, text(1), api.ErrSeal)
			r.writes(2, 64*57, text(65), api.ErrSeal)
			r.writes(2, 64*58, text(65), api.ErrSeal)
		})
		r.writes(2, 128, text(128), api.OK)
		r.writes(2, 64*31, text(64*27), api.OK)
		r.writes(2, 64*85, text(65), api.OK)
		r.reads(2, 64*31, 64*27, text(64*27), api.OK)
	}
	m := blank(one)
	m.set(2, api.Inode{Kind: 1, Double: 45})
	r := fresh(t, 9, m)
	r.leaves(func() {
		r.writes(2, 64*30, text(65), api.ErrSeal)
		r.writes(2, 64*31, text(1), api.ErrSeal)
	})
	r.writes(2, 64*30, text(64), api.OK)
}

// 21.1, P2: blocks that lie where layer 17 takes no patch, and a sector of pointers that does: ErrArg, and nothing is done, not of the blocks ahead of it either.
func TestWriteWhereNoneMay(t *testing.T) {
	for _, sector := range []int{1, 38, 2047, 65535} {
		m := blank(three)
		f := m.file(1, 256, 0, 1, 2, 3)
		f.x.Direct[2] = uint16(sector)
		m.set(1, f.x)
		r := fresh(t, 9, m)
		r.leaves(func() {
			r.writes(1, 0, text(256), api.ErrArg)
			r.writes(1, 128, text(1), api.ErrArg)
		})
		r.writes(1, 0, text(128), api.OK)
		r.writes(1, 192, text(128), api.OK)
	}
	m := blank(three)
	m.l[1] = sealed(api.KindPtrs, table(map[int]int{1: 30}))
	m.set(1, api.Inode{Kind: 1, Single: 1})
	r := fresh(t, 9, m)
	r.leaves(func() {
		r.writes(1, 256, text(1), api.ErrArg)
		r.writes(1, 0, text(300), api.ErrArg)
	})
	r.writes(1, 320, text(64), api.OK)
	r.are(1, raw(30, 0, text(64), 1), size(three, 1, 384, 1))
}

// 21.1: block by block: a sector of pointers that two ways share, so that what was hung in by one of them is there for the other.
func TestWriteShared(t *testing.T) {
	m := blank(one)
	f := m.file(1, 64*60, 57)
	f.x.Single = uint16(f.tables[2])
	m.set(1, f.x)
	r := fresh(t, 9, m)
	d := text(64 * 28)
	r.writes(1, 64*29, d, api.OK)
	r.same("free", r.free(), 40-3-26)
	r.reads(1, 64*29, 64, d[64*27:], api.OK)
	r.reads(1, 64*31, 64*26, d[64*2:], api.OK)
}
