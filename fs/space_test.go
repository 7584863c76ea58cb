package fs_test

import (
	"fmt"
	"testing"

	"scupper/api"
	"scupper/file"
)

// filled is so many blocks of a directory in which no slot is empty: names of inode 2.
func filled(blocks int) []api.Load {
	var l []api.Load
	for k := range blocks {
		n := func(i int) api.Entry { return ent(2, fmt.Sprint("n", 4*k+i)) }
		l = append(l, names(n(0), n(1), n(2), n(3)))
	}
	return l
}

// street is a disk whose root has the file n0 (inode 2, of that size, without blocks) and its like, in so many blocks without an empty slot; behind that just so many sectors, and inodes, are free.
func street(g api.Geom, blocks, size, sectors, inodes int) *image {
	m := blank(g)
	m.dir(1, filled(blocks)...)
	m.set(2, api.Inode{Kind: isFile, Links: 100, Size: uint32(size)})
	m.fill(0, sectors)
	var l []int
	for i := range inodes {
		l = append(l, 3+i)
	}
	return m.fillInodes(l...)
}

// 26.1, 26.2, 26.4: each kind that takes something, with just as many sectors and inodes free as it takes, with one more, and with fewer: ErrSpace where it takes more than is free, and then nothing is done.
func TestSpace(t *testing.T) {
	type need struct {
		o               api.Op
		blocks, size    int
		sectors, inodes int
	}
	l := []need{
		{mkdir("/d"), 0, 0, 1, 1},
		{mkdir("/d"), 1, 0, 1, 1},
		{mkdir("/d"), 4, 0, 2, 1},
		{mkdir("/d"), 5, 0, 1, 1},
		{mkdir("/d"), 31, 0, 3, 1},
		{mkdir("/d"), 32, 0, 1, 1},
		{mkdir("/d"), 58, 0, 2, 1},
		{opening("/f", 7), 0, 0, 1, 1},
		{opening("/f", 5), 4, 0, 2, 1},
		{opening("/f", 31), 31, 0, 3, 1},
		{link("/n1", "/f"), 1, 0, 1, 0},
		{link("/n1", "/f"), 4, 0, 2, 0},
		{link("/n1", "/f"), 31, 0, 3, 0},
		{rename("/n1", "/f"), 1, 0, 1, 0},
		{rename("/n1", "/f"), 4, 0, 2, 0},
		{rename("/n1", "/f"), 31, 0, 3, 0},
		{write(0, "a"), 1, 0, 1, 0},
		{write(0, text(65)), 1, 0, 2, 0},
		{write(0, text(256)), 1, 0, 4, 0},
		{write(0, text(257)), 1, 0, 6, 0},
		{write(0, text(64*31)), 1, 0, 32, 0},
		{write(0, text(64*31+1)), 1, 0, 35, 0},
		{write(0, text(64*58+1)), 1, 0, 63, 0},
		{write(0, text(maxBytes)), 1, 0, 64 + 4, 0},
		{write(0, "a"), 1, 300, 1, 0},
	}
	for _, n := range l {
		for more := -n.sectors; more <= 1; more++ {
			if more < -2 && more > 2-n.sectors {
				continue
			}
			for inodes := range n.inodes + 2 {
				r := fresh(t, 9, street(long, n.blocks, n.size, n.sectors+more, inodes))
				if n.o.Kind == api.OpWrite {
					r.open("/n0", forWrite, 0)
				}
				r.free(n.sectors+more, inodes)
				r.costs(n.o, n.sectors, n.inodes)
				if more < 0 || inodes < n.inodes {
					r.refused(n.o, api.ErrSpace)
					r.says(0, true)
					continue
				}
				r.takes(n.o, n.sectors, n.inodes)
				r.free(more, inodes-n.inodes)
			}
		}
		if t.Failed() {
			t.Fatal(short(n.o), n.blocks)
		}
	}
}

// 26.2: what a write takes is what layer 21 says, from wherever to wherever; nothing of no bytes.
func TestCostOfWrites(t *testing.T) {
	m := blank(great)
	m.dir(1, names(ent(2, "f")))
	x := api.Inode{Kind: isFile, Links: 1, Size: 64 * 40}
	for _, k := range []int{0, 3, 5, 6, 33} {
		m.hang(0, &x, k, m.take(0))
	}
	m.set(2, x)
	r := fresh(t, 9, m)
	r.open("/f", 3, 0)
	for _, from := range []int{0, 1, 63, 64, 127, 192, 255, 256, 320, 383, 384, 64 * 30, 64*31 - 1, 64 * 31, 64 * 33, 64 * 34, 64 * 57, 64*58 - 1, 64 * 58, 64 * 85, 64 * 700, maxSize - 1, maxSize} {
		r.want(seek(0, from), api.Answer{N: from})
		for _, n := range []int{0, 1, 2, 63, 64, 65, 128, 1000, maxBytes} {
			want := 0
			if from+n <= maxSize {
				want = file.Cost(r.v, x, from, n)
			}
			r.costs(write(0, text(n)), want, 0)
		}
	}
	r.want(seek(0, 64), api.Answer{N: 64})
	r.takes(write(0, text(2048)), 33-1-4+1, 0) // blocks 1 to 32 but for three that are there, and a sector of Double's
	r.costs(write(0, "a"), 0, 0)
}

// 26.2: Cost of all that takes nothing, and of all that has another error.
func TestCostOfNothing(t *testing.T) {
	r := fresh(t, 9, house())
	r.open("/d/f", 3, 0)
	r.leaves(func() {
		for _, o := range []api.Op{
			closing(0), read(0, 9), write(0, "a"), write(0, ""), seek(0, 9), cut("/d/f", 9), cut("/d/f", 9999), rmdir("/d/e"), unlink("/d/f"), unlink("/g"),
			rename("/g", "/d/f"), rename("/d/f", "/g"), rename("/g", "/g"), stat("/"), list("/"), fsync(0), sync(),
			opening("/g", 3), opening("/g", 7), opening("/d/f", forWrite|cutting),
			opening("/q", 3), opening("/d", 7), opening("/q", 4), opening("/g", 15), mkdir("/d"), mkdir("/q/q"), mkdir("/"), mkdir("q"), link("/d", "/q"), link("/q", "/z"), link("/g", "/d"),
			rename("/q", "/z"), rename("/d", "/d/z"), rename("/g", "/d"), write(1, "a"), {}, {Kind: 16},
		} {
			r.costs(o, 0, 0)
		}
		r.costs(mkdir("/d/e/x"), 1, 1)
		r.costs(opening("/x", 7), 0, 1)
	})
}

// 26.1, 26.2, P2: a directory that has as many blocks as a file can have, and no empty slot: ErrBig, ahead of ErrSpace, and nothing is done; where a slot is emptied there is room.
func TestDirBig(t *testing.T) {
	r := fresh(t, 64, street(wide, 760, 9, 0, 0))
	r.refuses(api.ErrBig, mkdir("/d"), opening("/f", 7), link("/n3", "/x"), rename("/n3", "/x"))
	r = fresh(t, 64, street(wide, 760, 9, 4, 2))
	r.refuses(api.ErrBig, mkdir("/d"), opening("/f", 7), link("/n3039", "/x"), rename("/n3039", "/x"))
	r.done(rename("/n3039", "/n3038")) // the same node
	r.same("next", r.next(), 1)
	r.done(unlink("/n2022"))
	r.takes(mkdir("/d"), 0, 1)
	r.refused(opening("/f", 7), api.ErrBig)
	r.takes(opening("/d/f", 7), 1, 1)
	r.done(unlink("/n2021"))
	r.takes(rename("/d/f", "/f"), 0, 0)
	// The last block that there can be.
	r = fresh(t, 64, street(wide, 759, 9, 1, 2))
	r.takes(mkdir("/d"), 1, 1)
	r.refused(rmdir("/q"), api.ErrNoEnt)
	for i := range 3 {
		r.takes(link("/n5", fmt.Sprint("/m", i)), 0, 0)
	}
	r.refused(link("/n5", "/m3"), api.ErrBig)
}

// 26.4: what is gone is free behind a sync, not ahead of it.
func TestSpaceComesBack(t *testing.T) {
	r := fresh(t, 9, blank(least))
	r.free(4, 2)
	r.has("/f", text(3*64))
	r.free(0, 1)
	r.open("/f", 3, 0)
	r.want(seek(0, 200), api.Answer{N: 200})
	r.refused(write(0, "a"), api.ErrSpace)
	r.done(mkdir("/d"))
	r.refuses(api.ErrSpace, mkdir("/e"), mkdir("/d/e"), opening("/e", 7))
	r.done(cut("/f", 64))
	r.refuses(api.ErrSpace, write(0, "a"), link("/f", "/d/f"))
	r.done(sync())
	r.free(2, 0)
	r.takes(link("/f", "/d/f"), 1, 0)
	r.refuses(api.ErrSpace, opening("/e", 7))
	r.takes(write(0, "a"), 1, 0)
	r.done(unlink("/f"), unlink("/d/f"), rmdir("/d"), sync())
	r.free(1, 1)
	r.done(closing(0), sync())
	r.free(3, 2)
	r.says(0, true)
}
