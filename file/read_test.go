package file_test

import (
	"fmt"
	"math"
	"testing"

	"scupper/api"
	"scupper/file"
)

// 21.1: the chapter's example: ab at 63 takes two blocks, and the size is 65 then.
func TestExample(t *testing.T) {
	for _, g := range []api.Geom{three, one, least, great} {
		r := fresh(t, 9, blank(g))
		first := dataAt(g, 0, 0)
		r.costs(r.inode(1), 63, 2, 2)
		r.writes(1, 63, []byte("ab"), api.OK)
		r.same("the inode", r.inode(1), api.Inode{Kind: 1, Size: 65, Direct: [4]uint16{uint16(first), uint16(first + 1)}})
		r.same("free", r.free(), g.Groups*g.Data-2)
		r.reads(1, 0, 99, append(make([]byte, 63), "ab"...), api.OK)
	}
}

// longest is a disk with the greatest file, inode 4, and a file without bytes.
func longest() (*image, *made) {
	m := blank(wide)
	ks := make([]int, api.MaxBlocks)
	for k := range ks {
		ks[k] = k
	}
	return m, m.file(4, api.MaxSize, ks...)
}

// 21.1: each block of the greatest file, and bytes over its end, whatever the cache holds; and as many as may be read at once, from all over.
func TestReadAllBlocks(t *testing.T) {
	m, _ := longest()
	for _, held := range []int{1, 3, api.MaxCache} {
		r := fresh(t, held, m)
		r.leaves(func() {
			for k := range api.MaxBlocks {
				r.reads(4, 64*k, 64, bytesFrom(64*k, 64), api.OK)
				r.reads(4, 64*k+60, 9, bytesFrom(64*k+60, min(9, 4+64*(759-k))), api.OK)
			}
			for off := 0; off < api.MaxSize; off += 997 {
				r.reads(4, off, api.MaxBytes, bytesFrom(off, min(api.MaxBytes, api.MaxSize-off)), api.OK)
			}
		})
	}
}

// 21.1: any first byte and any number of them, within a block, over its end, and over several.
func TestReadEveryStretch(t *testing.T) {
	m := blank(three)
	m.file(5, 64*6, 5, 4, 3, 2, 1, 0)
	r := fresh(t, 9, m)
	for off := range 200 {
		for _, n := range []int{0, 1, 2, 7, 63, 64, 65, 127, 128, 129, 180} {
			r.reads(5, off, n, bytesFrom(off, n), api.OK)
		}
	}
}

// 21.1: up to the size, wherever that lies; nothing from the size on, be there bytes or not.
func TestReadUpToTheSize(t *testing.T) {
	for _, size := range []int{0, 1, 63, 64, 65, 127, 128, 200, 255, 256, 257, 319} {
		m := blank(three)
		m.file(7, size, 0, 1, 2, 3, 4)
		r := fresh(t, 9, m)
		for off := 0; off < size; off += 13 {
			for _, n := range []int{1, size - off - 1, size - off, size - off + 1, 320, api.MaxBytes} {
				r.reads(7, off, n, bytesFrom(off, min(n, size-off)), api.OK)
			}
		}
		for _, off := range []int{size, size + 1, 320, 4000, api.MaxSize, api.MaxSize + 1, 1 << 32, math.MaxInt - 1, math.MaxInt} {
			for _, n := range []int{0, 1, api.MaxBytes} {
				r.reads(7, off, n, nil, api.OK)
			}
		}
	}
}

// 21.1: noughts where there is no block: between others, behind all, and where no sector of pointers is, or one that is not right.
func TestReadHoles(t *testing.T) {
	for n, b := range append(wrong(), sealed(api.KindPtrs, api.Load{})) {
		m := blank(one)
		f := m.file(2, 64*400, 1, 3, 6, 31, 60, 330)
		m.l[f.tables[2+11]] = b // to which block 330's way leads
		r := fresh(t, 9, m)
		var there []int
		for k := range 400 {
			want := make([]byte, 64)
			if _, in := f.block[k]; in && k != 330 {
				want = bytesFrom(64*k, 64)
				there = append(there, k)
			}
			r.reads(2, 64*k, 64, want, api.OK)
			r.reads(2, 64*k+9, 3, want[9:12], api.OK)
		}
		r.same(fmt.Sprint("blocks, with sector ", n), there, []int{1, 3, 6, 31, 60})
		r.reads(2, 126, 7, append(bytesFrom(126, 2), make([]byte, 5)...), api.OK)
		r.reads(2, 190, 4, append(make([]byte, 2), bytesFrom(192, 2)...), api.OK)
	}
	m := blank(one)
	m.set(2, api.Inode{Kind: 1, Size: 64 * 60, Single: 44, Double: 2000})
	r := fresh(t, 9, m)
	for off := range 60 {
		r.reads(2, 64*off, 64, make([]byte, 64), api.OK)
	}
}

// 21.1: a size that may not be, beyond all blocks: there are noughts behind the last one.
func TestReadBeyondAllBlocks(t *testing.T) {
	m := blank(three)
	m.file(1, math.MaxUint32, 759)
	r := fresh(t, 9, m)
	r.reads(1, api.MaxSize-2, 9, append(bytesFrom(api.MaxSize-2, 2), make([]byte, 7)...), api.OK)
	r.reads(1, api.MaxSize, 70, make([]byte, 70), api.OK)
	r.reads(1, math.MaxUint32-3, 70, make([]byte, 3), api.OK)
	r.reads(1, math.MaxUint32, 70, nil, api.OK)
}

// 21.1: its bytes are what its blocks are now: patches count, in the order in which they came, be they written or not.
func TestReadNow(t *testing.T) {
	m := blank(three)
	f := m.file(3, 128, 0, 1)
	r := fresh(t, 9, m)
	r.patch(f.block[0], 62, 0, 1, 2)
	id := r.patch(f.block[0], 63, 0, 3)
	want := append(bytesFrom(60, 2), 1, 3)
	want = append(want, bytesFrom(64, 4)...)
	r.reads(3, 60, 8, want, api.OK)
	r.settles(id)
	r.reads(3, 60, 8, want, api.OK)
	r.patch(f.block[0], 63, 0, 9)
	want[3] = 9
	r.reads(3, 60, 8, want, api.OK)
	sector, off, _ := at(three, 3)
	r.patch(sector, off+2, api.KindInode, 66)
	r.reads(3, 60, 8, want[:6], api.OK)
	r.patch(sector, off+6, api.KindInode, 0, 0)
	r.reads(3, 60, 8, []byte{0, 0, 0, 0, want[4], want[5]}, api.OK)
}

// 21.1: a directory has bytes, too; only an inode of kind 0 has none.
func TestReadKinds(t *testing.T) {
	m := blank(three)
	f := m.file(3, 64, 0)
	for kind := range 256 {
		x := f.x
		x.Kind = uint8(kind)
		m.set(3, x)
		r := fresh(t, 9, m)
		if kind == 0 {
			r.reads(3, 1, 2, nil, api.ErrArg)
			continue
		}
		r.reads(3, 1, 2, bytesFrom(1, 2), api.OK)
	}
}

// 21.1, P1: what is answered is the caller's own.
func TestReadIsOwn(t *testing.T) {
	m := blank(three)
	m.file(3, 128, 0, 1)
	r := fresh(t, 9, m)
	l, _ := file.Read(r.v, 3, 0, 128)
	clear(l)
	r.reads(3, 0, 128, bytesFrom(0, 128), api.OK)
}

// spoilt is a disk on which inode 1 is a file of four blocks, 2 is none, 3 has sectors of pointers that are not right, and 4 lies in a sector that is not right.
func spoilt() *image {
	m := blank(three)
	m.file(1, 64*4, 0, 1, 2, 3)
	m.set(2, api.Inode{Links: 3, Size: 100, Direct: [4]uint16{5}})
	m.set(3, api.Inode{Kind: 1, Size: 64 * 40, Single: 13, Double: 200})
	m.l[16][3] ^= 1
	return m
}

// badStretches is places and numbers of bytes of which one may not be.
var badStretches = [][2]int{{-1, 0}, {-1, 1}, {0, -1}, {0, api.MaxBytes + 1}, {math.MinInt, 9}, {9, math.MinInt}, {9, math.MaxInt}, {math.MaxInt, math.MaxInt}, {-1, api.MaxBytes + 1}, {api.MaxSize, -1}}

// 21.1, P1: ErrArg, of an inode, a place and a number of bytes; then ErrSeal; nothing is changed, and no bytes are told.
func TestReadErrors(t *testing.T) {
	r := fresh(t, 9, spoilt())
	r.leaves(func() {
		for _, ino := range append(noInodes, 2) {
			r.reads(ino, 0, 9, nil, api.ErrArg)
			r.reads(ino, 0, 0, nil, api.ErrArg)
			r.reads(ino, -1, 9, nil, api.ErrArg)
		}
		for _, s := range badStretches {
			r.reads(1, s[0], s[1], nil, api.ErrArg)
			r.reads(4, s[0], s[1], nil, api.ErrArg)
		}
		for ino := 4; ino <= 6; ino++ {
			r.reads(ino, 0, 9, nil, api.ErrSeal)
			r.reads(ino, 0, 0, nil, api.ErrSeal)
			r.reads(ino, math.MaxInt, api.MaxBytes, nil, api.ErrSeal)
		}
		r.reads(1, 0, api.MaxBytes, bytesFrom(0, 256), api.OK)
		r.reads(1, 0, 0, nil, api.OK)
	})
}

// 21.1, P1: a pointer that leads beyond the disk: what layer 17 tells of that sector, and none of the bytes ahead of it.
func TestReadBeyondTheDisk(t *testing.T) {
	m := blank(three)
	f := m.file(1, 256, 0, 1, 2, 3)
	f.x.Direct[2] = 38
	m.set(1, f.x)
	r := fresh(t, 9, m)
	r.leaves(func() {
		r.reads(1, 0, 256, nil, api.ErrArg)
		r.reads(1, 129, 1, nil, api.ErrArg)
		r.reads(1, 0, 128, bytesFrom(0, 128), api.OK)
		r.reads(1, 192, 64, bytesFrom(192, 64), api.OK)
	})
}

// 21.1, 21.2, P1: of a volume that is none.
func TestNil(t *testing.T) {
	for _, ino := range []int{-1, 0, 1} {
		for _, n := range []int{-1, 0, 1} {
			l, e := file.Read(nil, ino, n, n)
			if l != nil || e != api.ErrNil {
				t.Errorf("Read: %v, %v", l, e)
			}
			for _, e := range []api.Errno{file.Write(nil, ino, n, nil), file.Write(nil, ino, n, []byte{1}), file.Cut(nil, ino, n), file.Drop(nil, ino), file.Drop(nil, ino, n)} {
				if e != api.ErrNil {
					t.Errorf("of none: %v", e)
				}
			}
			if n := file.Cost(nil, api.Inode{Kind: 1}, n, n); n != 0 {
				t.Errorf("Cost: %v", n)
			}
		}
	}
}
