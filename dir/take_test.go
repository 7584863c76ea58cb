package dir_test

import (
	"fmt"
	"math"
	"testing"

	"scupper/api"
	"scupper/dir"
)

// 22.2: a name is taken by one patch of 13 noughts in its slot, that needs just what is given, whatever losses there are; about the inode of its entry. The size stays, and nothing is free.
func TestTake(t *testing.T) {
	for i := range 12 {
		for _, needs := range [][]int{nil, {1}, {2, 1, 2}} {
			m := blank(three)
			f := m.dir(5, 192, fulls(3)...)
			r := fresh(t, 9, m)
			r.patch(36, 0, 0, 1)
			r.patch(f.block[2], 0, api.KindDir, bytes13(nth(8))...)
			free := r.free()
			r.takes(5, nth(i).Name, 3, api.OK, needs...)
			r.are(3, lost(f.block[i/4], i%4, 5, nth(i).Ino, needs...))
			r.losses(5, 3)
			r.same("the inode", r.inode(5), f.x)
			r.same("free", r.free(), free)
			r.finds(5, nth(i).Name, 0, api.ErrNoEnt)
			r.has(5, append(nths(0, i), nths(i+1, 12)...)...)
			r.costs(5, 0)
			r.says(6, true)
			r.same("writes", r.d.Writes(), 0)
			next := (i + 5) % 12
			r.takes(5, nth(next).Name, 4, api.OK)
			r.is(4, lost(f.block[next/4], next%4, 5, nth(next).Ino))
			r.losses(5, 3, 4)
		}
	}
}

// 22.2: at all levels of blocks.
func TestTakeFar(t *testing.T) {
	m := blank(wide)
	f := m.dir(2, 64*100, fulls(100)...)
	r := fresh(t, 9, m)
	id := 0
	for _, k := range []int{0, 3, 4, 30, 31, 57, 58, 99} {
		id++
		i := 4*k + k%4
		r.takes(2, nth(i).Name, id, api.OK)
		r.is(id, lost(f.block[k], k%4, 2, nth(i).Ino))
		r.finds(2, nth(i).Name, 0, api.ErrNoEnt)
		r.turns(2, nth(i^1).Name, 70+k, id+1, api.OK)
		r.finds(2, nth(i^1).Name, 70+k, api.OK)
		id++
	}
	r.syncs()
	l, _ := dir.List(r.v, 2)
	r.same("names", len(l), 400-8)
}

// 22.2: of two entries of one name the first one is taken, and turned; then the other one is the first.
func TestTakeFirstOfTwo(t *testing.T) {
	m := blank(one)
	f := m.dir(1, 128, held{0, names(ent(1, "b"), ent(2, "a"), ent(3, "a"))}, held{1, names(ent(4, "a"))})
	r := fresh(t, 9, m)
	r.turns(1, "a", 9, 1, api.OK)
	r.is(1, turned(f.block[0], 1, 9, 1))
	r.takes(1, "a", 2, api.OK)
	r.is(2, lost(f.block[0], 1, 1, 9))
	r.has(1, ent(1, "b"), ent(3, "a"), ent(4, "a"))
	r.takes(1, "a", 3, api.OK)
	r.is(3, lost(f.block[0], 2, 1, 3))
	r.turns(1, "a", 8, 4, api.OK)
	r.is(4, turned(f.block[1], 0, 8, 1, 2, 3))
	r.takes(1, "a", 5, api.OK)
	r.is(5, lost(f.block[1], 0, 1, 8))
	r.takes(1, "a", 0, api.ErrNoEnt)
	r.has(1, ent(1, "b"))
}

// 22.2: a name is turned by one patch of two bytes in its slot, that needs what is given and, behind that, all losses of the directory; about the other inode. Its place stays.
func TestTurn(t *testing.T) {
	for i := range 12 {
		for to, needs := range map[int][]int{1: nil, 255: {1}, 256: {2, 1, 2}, 65535: {3}} {
			m := blank(three)
			f := m.dir(5, 192, fulls(3)...)
			m.dir(6, 64, fulls(1)...)
			r := fresh(t, 9, m)
			r.patch(36, 0, 0, 1)
			r.takes(6, "n0", 2, api.OK)
			gone, other := (i+7)%12, (i+1)%12
			r.takes(5, nth(gone).Name, 3, api.OK, 1)
			r.turns(5, nth(i).Name, to, 4, api.OK, needs...)
			r.are(4, turned(f.block[i/4], i%4, to, 5, append(needs, 3)...))
			r.same("the inode", r.inode(5), f.x)
			r.finds(5, nth(i).Name, to, api.OK)
			want := nths(0, 12)
			want[i].Ino = to
			r.has(5, append(want[:gone:gone], want[gone+1:]...)...)
			r.takes(5, nth(other).Name, 5, api.OK)
			r.turns(5, nth(i).Name, 77, 6, api.OK, 4)
			r.is(6, turned(f.block[i/4], i%4, 77, 5, 4, 3, 5))
			r.syncs()
			r.finds(5, nth(i).Name, 77, api.OK)
		}
	}
}

// 22.2: without losses a turn needs what is given alone; and to the same inode it is turned likewise.
func TestTurnAlone(t *testing.T) {
	m := blank(one)
	f := m.dir(1, 64, fulls(1)...)
	r := fresh(t, 9, m)
	r.turns(1, "n2", nth(2).Ino, 1, api.OK)
	r.is(1, turned(f.block[0], 2, nth(2).Ino, 1))
	r.turns(1, "n0", 3, 2, api.OK, 1)
	r.are(2, turned(f.block[0], 0, 3, 1, 1))
	r.losses(1)
	r.has(1, ent(3, "n0"), nth(1), nth(2), nth(3))
}

// 22.2: what was added can be taken and turned ahead of its being stable, in a block that was hung in, too; the patches come in order.
func TestTakeWhatWasAdded(t *testing.T) {
	r := fresh(t, 9, blank(one))
	r.adds(1, ent(9, "a"), 4, api.OK)
	r.adds(1, ent(8, "b"), 5, api.OK)
	r.turns(1, "a", 300, 6, api.OK)
	r.is(6, turned(5, 0, 300, 1))
	r.takes(1, "a", 7, api.OK)
	r.is(7, lost(5, 0, 1, 300))
	r.takes(1, "a", 0, api.ErrNoEnt)
	r.turns(1, "a", 1, 0, api.ErrNoEnt)
	r.adds(1, ent(7, "a"), 8, api.OK)
	r.is(8, added(5, 0, ent(7, "a"), 1, 7))
	r.has(1, ent(7, "a"), ent(8, "b"))
	r.syncs()
	r.has(1, ent(7, "a"), ent(8, "b"))
	r.same("the block", r.d.Image()[5][:39], append(append(bytes13(ent(7, "a")), bytes13(ent(8, "b"))...), make([]byte, 13)...))
}

// 22.2: all names are taken, and the slots stay; the next ones go there, from the first on.
func TestTakeAll(t *testing.T) {
	m := blank(one)
	f := m.dir(3, 64*3, fulls(3)...)
	r := fresh(t, 9, m)
	for i := range 12 {
		j := i * 5 % 12
		r.takes(3, nth(j).Name, i+1, api.OK)
	}
	r.has(3)
	r.same("the inode", r.inode(3), f.x)
	r.syncs()
	for i := range 12 {
		r.adds(3, ent(i+1, fmt.Sprint("m", i)), 13+i, api.OK)
		r.is(13+i, added(f.block[i/4], i%4, ent(i+1, fmt.Sprint("m", i)), 3))
	}
	r.same("the inode", r.inode(3), f.x)
}

// 22.2: which error is told, where several apply: the directory, its kind, the other inode, the name, that it is not there; that the directory's inode is not right comes behind what is told without it. Nothing is changed.
func TestTakeErrors(t *testing.T) {
	m := blank(three)
	m.set(2, api.Inode{Kind: api.InodeFile})
	m.set(3, api.Inode{})
	m.set(7, api.Inode{Kind: 77})
	m.dir(1, 64, held{0, full(0)}, held{1, full(1)})
	m.l[16] = wrong(api.KindInode)[4]
	r := fresh(t, 9, m)
	r.leaves(func() {
		for _, name := range append(noNames, "n0", "a") {
			for _, d := range noInodes {
				r.takes(d, name, 0, api.ErrArg, 99)
			}
			for _, d := range []int{2, 3, 7} {
				r.takes(d, name, 0, api.ErrNotDir, 99)
			}
			for _, to := range append(noEntries, 1) {
				for _, d := range noInodes {
					r.turns(d, name, to, 0, api.ErrArg, 99)
				}
				for _, d := range []int{2, 3, 7} {
					r.turns(d, name, to, 0, api.ErrNotDir, 99)
				}
			}
			for _, to := range noEntries {
				r.turns(1, name, to, 0, api.ErrArg, 99)
				r.turns(4, name, to, 0, api.ErrArg, 99)
			}
		}
		for _, name := range noNames {
			for _, d := range []int{1, 4} {
				r.takes(d, name, 0, api.ErrName, 99)
				r.turns(d, name, 65535, 0, api.ErrName, 99)
			}
		}
		for _, name := range []string{"n4", "n", "a", "n00", "N0"} {
			r.takes(1, name, 0, api.ErrNoEnt, 99)
			r.turns(1, name, 1, 0, api.ErrNoEnt, 99)
			r.takes(8, name, 0, api.ErrNoEnt)
			r.turns(8, name, 1, 0, api.ErrNoEnt)
			r.takes(4, name, 0, api.ErrSeal, 99)
			r.turns(4, name, 1, 0, api.ErrSeal, 99)
		}
	})
}

// 22.2, P2: needs that are no numbers given: ErrArg, as layer 14 tells, behind all others, and nothing is done.
func TestTakeNeedsThatMayNotBe(t *testing.T) {
	m := blank(three)
	m.dir(5, 64, fulls(1)...)
	r := fresh(t, 9, m)
	r.patch(36, 0, 0, 1)
	r.patch(36, 1, 0, 1)
	r.leaves(func() {
		for _, needs := range [][]int{{0}, {-1}, {3}, {4}, {1, 2, 3}, {9, 1}, {math.MinInt}, {math.MaxInt}} {
			r.takes(5, "n0", 0, api.ErrArg, needs...)
			r.turns(5, "n0", 5, 0, api.ErrArg, needs...)
		}
	})
	r.takes(5, "n0", 3, api.OK, 1, 2)
	r.turns(5, "n1", 5, 4, api.OK, 1, 2)
	r.syncs()
	r.takes(5, "n2", 5, api.OK, 1, 4) // what is stable may be needed
	r.is(5, lost(dataAt(three, 1, 0), 2, 5, nth(2).Ino, 1, 4))
}

// 22.2: names that are listed neither behind the size, nor in slots that are bad or blocks that are not right, can't be taken or turned.
func TestTakeNoName(t *testing.T) {
	m := blank(one)
	p := full(1)
	p[0], p[1] = 0, 0 // n4 has no inode
	f := m.dir(1, 64*3, held{0, full(0)}, held{1, p}, held{2, full(2)}, held{3, full(3)})
	m.l[f.block[0]][63] ^= 1
	r := fresh(t, 9, m)
	r.leaves(func() {
		for _, i := range []int{0, 3, 4, 12, 15} {
			r.takes(1, nth(i).Name, 0, api.ErrNoEnt)
			r.turns(1, nth(i).Name, 5, 0, api.ErrNoEnt)
		}
	})
	r.takes(1, nth(5).Name, 1, api.OK)
	r.turns(1, nth(8).Name, 5, 2, api.OK)
}
