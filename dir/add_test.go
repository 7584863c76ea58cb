package dir_test

import (
	"fmt"
	"math"
	"strings"
	"testing"

	"scupper/api"
	"scupper/dir"
)

// 22.2: into the first slot that is empty, whatever lies in the others: one patch of its 13 bytes, which is the one that is answered; the size stays, and nothing is taken.
func TestAddIntoASlot(t *testing.T) {
	for block := range 3 {
		for mask := 1; mask < 16; mask++ {
			m := blank(three)
			l := fulls(3)
			all := nths(0, 12)
			first := -1
			for i := range 4 {
				if mask>>i&1 == 1 {
					copy(l[block].p[13*i:], make([]byte, 13))
					all[4*block+i] = ent(0, "")
					if first < 0 {
						first = i
					}
				}
			}
			f := m.dir(5, 192, l...)
			r := fresh(t, 9, m)
			r.costs(5, 0)
			free := r.free()
			r.adds(5, ent(300, "new"), 1, api.OK)
			r.are(1, added(f.block[block], first, ent(300, "new"), 5))
			r.same("the inode", r.inode(5), f.x)
			r.same("free", r.free(), free)
			all[4*block+first] = ent(300, "new")
			var want []api.Entry
			for _, e := range all {
				if e.Name != "" {
					want = append(want, e)
				}
			}
			r.has(5, want...)
			r.finds(5, "new", 300, api.OK)
			r.says(2, true)
			r.same("writes", r.d.Writes(), 0)
			r.syncs()
			r.has(5, want...)
		}
	}
}

// 22.2: the first block that has room counts, not one that has more of it, nor the one whose sector lies ahead.
func TestAddFirstBlock(t *testing.T) {
	m := blank(one)
	f := m.dir(1, 64*6, held{4, names()}, held{3, full(3)}, held{2, names(nth(8), nth(9), nth(10))}, held{1, names()}, held{0, full(0)}, held{5, names()})
	r := fresh(t, 9, m)
	id := 0
	for _, k := range []int{1, 2, 4, 5} {
		for i := range 4 {
			if k == 2 && i < 3 {
				continue
			}
			id++
			e := ent(id, fmt.Sprint("x", id))
			r.adds(1, e, id, api.OK)
			r.is(id, added(f.block[k], i, e, 1))
		}
	}
	r.costs(1, 1)
}

// 22.2: a slot that is bad is neither a name nor room: it stays as it is.
func TestAddBesideBadSlots(t *testing.T) {
	for _, bad := range badSlots() {
		m := blank(one)
		var p api.Load
		copy(p[:], bad)
		copy(p[13:], bad)
		copy(p[39:], bad)
		f := m.dir(1, 64, held{0, p})
		r := fresh(t, 9, m)
		r.adds(1, ent(7, "a"), 1, api.OK)
		r.is(1, added(f.block[0], 2, ent(7, "a"), 1))
		copy(p[26:], bytes13(ent(7, "a")))
		q, _ := r.v.Load(f.block[0], api.KindDir)
		r.same("the block", q, p)
		r.has(1, ent(7, "a"))
		r.costs(1, 1)
	}
}

// 22.2: without room a block is hung in behind the size, with the entry in slot 0 and noughts behind; then the size is set, needing the pointer's patch alone; that one is answered. Of the pointers of the inode's own.
func TestAddHungIn(t *testing.T) {
	for k := range 4 {
		for _, needs := range [][]int{nil, {1}, {2, 1, 1}} {
			m := blank(three)
			f := m.dir(5, 64*k, fulls(k)...)
			r := fresh(t, 9, m)
			r.patch(36, 0, 0, 1)
			r.patch(36, 1, 0, 1)
			r.costs(5, 1)
			to := 17 + k
			r.adds(5, ent(600, "abc"), 6, api.OK, needs...)
			r.are(3, bit(three, 1, 0, 1<<(k+1)-1), content(to, ent(600, "abc"), 5, needs...), set(three, 5, 6+2*k, two(to), 600, 3, 4), size(three, 5, 64*k+64, 5))
			f.x.Direct[k], f.x.Size = uint16(to), uint32(64*k+64)
			r.same("the inode", r.inode(5), f.x)
			r.has(5, append(nths(0, 4*k), ent(600, "abc"))...)
			r.says(6, true)
			r.costs(5, 0)
			r.syncs()
			r.has(5, append(nths(0, 4*k), ent(600, "abc"))...)
		}
	}
}

// 22.2: behind Single, with the sector of pointers that is missing or in the one that is there: these, too, are about the entry's inode; the size is not.
func TestAddHungInSingle(t *testing.T) {
	m := blank(one)
	f := m.dir(2, 64*4, fulls(4)...)
	r := fresh(t, 9, m)
	r.costs(2, 2)
	e := ent(9, "x")
	r.adds(2, e, 6, api.OK)
	r.are(1, bit(one, 0, 0, 31), content(9, e, 2), bit(one, 0, 0, 63), hop(10, 0, 9, 2, 9, 1, 2), set(one, 2, 14, two(10), 9, 3, 4), size(one, 2, 320, 5))
	f.x.Single, f.x.Size = 10, 320
	r.same("the inode", r.inode(2), f.x)
	r.has(2, append(nths(0, 16), e)...)
	for k := 5; k < 31; k++ {
		m = blank(one)
		f = m.dir(2, 64*k, fulls(k)...)
		r = fresh(t, 9, m)
		r.costs(2, 1)
		to := 5 + k + 1
		r.adds(2, e, 4, api.OK)
		r.is(2, content(to, e, 2))
		r.is(3, leads(f.tables[0], k-4, to, 2, 9, 1, 2))
		r.is(4, size(one, 2, 64*k+64, 3))
		r.has(2, append(nths(0, 4*k), e)...)
	}
}

// 22.2: behind Double likewise.
func TestAddHungInDouble(t *testing.T) {
	e := ent(9, "x")
	m := blank(wide)
	m.dir(2, 64*31, fulls(31)...)
	r := fresh(t, 9, m)
	r.costs(2, 3)
	r.adds(2, e, 8, api.OK)
	r.are(1,
		bit(wide, 0, 4, 1), content(37, e, 2), bit(wide, 0, 4, 3), hop(38, 0, 37, 2, 9, 1, 2),
		bit(wide, 0, 4, 7), hop(39, 0, 38, 2, 9, 3, 4), set(wide, 2, 16, two(39), 9, 5, 6), size(wide, 2, 64*32, 7))
	r.has(2, append(nths(0, 124), e)...)
	for _, k := range []int{32, 57, 58, 59, 84, 85, 86, 733, 759} {
		m = blank(wide)
		f := m.dir(2, 64*k, fulls(k)...)
		r = fresh(t, 9, m)
		w, last := wayOf(k), 4
		if r.costs(2, 1+(27-w[2])/27); w[2] == 0 {
			last = 6
		}
		r.adds(2, e, last, api.OK)
		to := int(r.inode(2).Double)
		r.is(last, size(wide, 2, 64*k+64, last-1))
		if p, _ := r.v.Graph().Get(2); w[2] > 0 {
			r.is(2, content(p.At, e, 2))
			r.is(3, leads(f.tables[2+w[1]], w[2], p.At, 2, 9, 1, 2))
		} else {
			q, _ := r.v.Graph().Get(4)
			r.is(2, content(p.At, e, 2))
			r.is(4, hop(q.At, 0, p.At, 2, 9, 1, 2))
			r.is(5, leads(to, w[1], q.At, 2, 9, 3, 4))
		}
		r.has(2, append(nths(0, 4*k), e)...)
		r.syncs()
		r.has(2, append(nths(0, 4*k), e)...)
	}
}

// 22.2: the entry's patch needs what is given, as it is given, and behind these all losses of that directory, rising; be it in a slot, or a block's content. What is needed by the others is as ever.
func TestAddNeeds(t *testing.T) {
	m := blank(one)
	f := m.dir(1, 128, fulls(2)...)
	m.dir(2, 64, fulls(1)...)
	r := fresh(t, 9, m)
	r.patch(40, 0, 0, 1)
	r.takes(1, "n5", 2, api.OK)
	r.takes(2, "n0", 3, api.OK)
	r.takes(1, "n2", 4, api.OK)
	r.adds(1, ent(9, "a"), 5, api.OK, 3, 1, 3)
	r.is(5, added(f.block[0], 2, ent(9, "a"), 1, 3, 1, 3, 2, 4))
	r.adds(1, ent(8, "b"), 6, api.OK)
	r.is(6, added(f.block[1], 1, ent(8, "b"), 1, 2, 4))
	r.costs(1, 1)
	r.adds(1, ent(7, "c"), 10, api.OK, 1)
	r.are(7, bit(one, 0, 0, 15), content(8, ent(7, "c"), 1, 1, 2, 4), set(one, 1, 10, two(8), 7, 7, 8), size(one, 1, 192, 9))
	r.adds(3, ent(7, "c"), 14, api.OK)
	r.is(12, content(9, ent(7, "c"), 3))
	r.syncs()
	r.adds(1, ent(6, "d"), 15, api.OK, 2, 15-1) // what is stable may be needed, too
	r.is(15, added(8, 1, ent(6, "d"), 1, 2, 14))
	r.takes(1, "d", 16, api.OK)
	r.adds(1, ent(6, "d"), 17, api.OK, 16)
	r.is(17, added(8, 1, ent(6, "d"), 1, 16, 16))
}

// 22.2: what is needed comes ahead: the new name is not on the disk before the losses are.
func TestAddBehindLosses(t *testing.T) {
	m := blank(three)
	f := m.dir(5, 128, fulls(2)...)
	r := fresh(t, 9, m)
	r.takes(5, "n5", 1, api.OK)
	r.takes(5, "n1", 2, api.OK)
	r.takes(5, "n6", 3, api.OK)
	r.adds(5, ent(9, "a"), 4, api.OK) // into the slot of n1
	g := r.v.Graph()
	r.same("ready", fmt.Sprint(g.Ready(f.block[0]), g.Ready(f.block[1])), "[2] [1 3]")
	r.same("needed", g.Needed(4), []int{1, 2, 3, 4})
	r.settles(4)
	r.losses(5)
	r.has(5, nth(0), ent(9, "a"), nth(2), nth(3), nth(4), nth(7))
}

// 22.2: a pointer that is hung in needs the content, and so all its needs, and the size needs all of these.
func TestAddHungInBehind(t *testing.T) {
	m := blank(one)
	m.dir(1, 64*31, fulls(31)...)
	r := fresh(t, 9, m)
	r.patch(40, 0, 0, 1)
	r.adds(1, ent(9, "a"), 9, api.OK, 1)
	r.same("needed", r.v.Graph().Needed(9), []int{1, 2, 3, 4, 5, 6, 7, 8, 9})
	r.settles(9)
	r.has(1, append(nths(0, 124), ent(9, "a"))...)
	r.same("the graph", r.graph(), "0 0")
}

// 22.2: names and inodes of all sorts that may be.
func TestAddNames(t *testing.T) {
	r := fresh(t, 9, blank(one))
	var want []api.Entry
	for n := 1; n <= 10; n++ {
		for _, c := range "!x~." {
			name := strings.Repeat(string(c), n)
			if name == "." || name == ".." {
				continue
			}
			e := ent(1+len(want)*1500, name)
			want = append(want, e)
			id, f := dir.Add(r.v, 2, e)
			r.same("Add", f, api.OK)
			if len(want)%4 != 1 {
				p, _ := r.v.Graph().Get(id)
				r.same("its bytes", p.Data, bytes13(e))
			}
		}
	}
	for c := byte(33); c < 127; c++ {
		if c == '/' || c == '!' || c == 'x' || c == '~' || c == '.' {
			continue
		}
		want = append(want, ent(math.MaxUint16-int(c), string(rune(c))))
		_, f := dir.Add(r.v, 2, want[len(want)-1])
		r.same("Add", f, api.OK)
	}
	for _, ino := range []int{1, 2, 255, 256, 65534, 65535} {
		want = append(want, ent(ino, fmt.Sprint("i", ino)))
		_, f := dir.Add(r.v, 2, want[len(want)-1])
		r.same("Add", f, api.OK)
	}
	r.has(2, want...)
	r.syncs()
	r.has(2, want...)
	for _, e := range want {
		r.finds(2, e.Name, e.Ino, api.OK)
	}
	r.same("the size", r.inode(2).Size, 64*((len(want)+3)/4))
}

// 22.2: one inode may have several names, and need not be one of the disk's.
func TestAddAnyInode(t *testing.T) {
	r := fresh(t, 9, blank(least))
	r.adds(1, ent(1, "self"), 4, api.OK)
	r.adds(1, ent(1, "again"), 5, api.OK)
	r.adds(1, ent(65535, "far"), 6, api.OK)
	r.has(1, ent(1, "self"), ent(1, "again"), ent(65535, "far"))
}

// 22.2: a directory is filled from none to the greatest, name by name: each block is hung in when those ahead of it are full; then it is ErrBig, and nothing is done.
func TestAddMost(t *testing.T) {
	m := blank(wide)
	r := fresh(t, 64, m)
	free := r.free()
	for i := range 3040 {
		if i%4 == 0 {
			free -= dir.Cost(r.v, 1)
		}
		if _, e := dir.Add(r.v, 1, nth(i)); e != api.OK {
			t.Fatalf("name %d: %v", i, e)
		}
		if i%300 == 299 {
			r.same("free", r.free(), free)
			r.same("the size", r.inode(1).Size, 64*((i+4)/4))
			r.has(1, nths(0, i+1)...)
			r.syncs()
		}
		if t.Failed() {
			t.FailNow()
		}
	}
	r.same("taken", 7*128-r.free(), 760+1+1+27)
	r.costs(1, 0)
	r.leaves(func() {
		r.adds(1, ent(1, "x"), 0, api.ErrBig)
		r.adds(1, ent(1, "x"), 0, api.ErrBig, -1)
		r.adds(1, ent(1, "n3039"), 0, api.ErrExist)
	})
	id := r.next()
	r.takes(1, "n1717", id, api.OK)
	r.adds(1, ent(1, "x"), id+1, api.OK)
	r.leaves(func() { r.adds(1, ent(1, "y"), 0, api.ErrBig) })
	want := nths(0, 3040)
	want[1717] = ent(1, "x")
	r.has(1, want...)
}

// 22.2: a block is hung in behind the size, wherever others are missing; and what lies behind the size already is ErrArg, as layer 20 tells, with nothing done.
func TestAddHoles(t *testing.T) {
	m := blank(one)
	m.dir(1, 64*2)
	r := fresh(t, 9, m)
	r.adds(1, ent(5, "a"), 4, api.OK)
	r.same("the inode", r.inode(1), api.Inode{Kind: 2, Links: 1, Size: 192, Direct: [4]uint16{2: 5}})
	r.has(1, ent(5, "a"))
	r.costs(1, 0)
	r.adds(1, ent(6, "b"), 5, api.OK)
	r.has(1, ent(5, "a"), ent(6, "b"))
	for _, k := range []int{0, 3, 4, 30, 31, 58, 759} {
		m = blank(one)
		m.dir(1, 64*k, held{k, names()})
		m.fill(0, 0)
		r = fresh(t, 9, m)
		r.leaves(func() {
			r.has(1)
			r.adds(1, ent(5, "a"), 0, api.ErrArg)
		})
	}
}

// 22.2: blocks that are not right have no room: one is hung in behind the size.
func TestAddBesideWrongBlocks(t *testing.T) {
	for _, b := range wrong(api.KindDir) {
		m := blank(one)
		f := m.dir(1, 64, held{0, names()})
		m.l[f.block[0]] = b
		r := fresh(t, 9, m)
		r.adds(1, ent(5, "a"), 4, api.OK)
		r.are(1, bit(one, 0, 0, 3), content(6, ent(5, "a"), 1), set(one, 1, 8, two(6), 5, 1, 2), size(one, 1, 128, 3))
		r.has(1, ent(5, "a"))
	}
}

// 22.2: of inodes that may not be: the block is hung in behind the one in which the size lies.
func TestAddOddSize(t *testing.T) {
	for _, n := range []int{1, 63, 65, 127} {
		m := blank(one)
		m.dir(1, n)
		r := fresh(t, 9, m)
		r.adds(1, ent(5, "a"), 4, api.OK)
		k := (n + 63) / 64
		r.are(1, bit(one, 0, 0, 1), content(5, ent(5, "a"), 1), set(one, 1, 6+2*k, two(5), 5, 1, 2), size(one, 1, n+64, 3))
		r.has(1, ent(5, "a"))
	}
	for _, n := range []uint32{api.MaxSize - 63, api.MaxSize, api.MaxSize + 64, 1<<32 - 64, 1<<32 - 1} {
		m := blank(one)
		m.set(1, api.Inode{Kind: api.InodeDir, Size: n})
		r := fresh(t, 9, m)
		r.leaves(func() {
			r.costs(1, 0)
			r.adds(1, ent(5, "a"), 0, api.ErrBig)
		})
	}
}

// 22.2: as many sectors as it costs are enough; with one fewer it is ErrSpace, and nothing is done; into a slot that is empty a name goes without any.
func TestAddSpace(t *testing.T) {
	for n, cost := range map[int]int{0: 1, 3: 1, 4: 2, 5: 1, 30: 1, 31: 3, 32: 1, 57: 1, 58: 2, 59: 1} {
		for free := range cost + 2 {
			m := blank(wide)
			m.dir(4, 64*n, fulls(n)...)
			m.fill(1, free)
			r := fresh(t, 9, m)
			r.costs(4, cost)
			if free < cost {
				r.leaves(func() {
					r.adds(4, ent(5, "a"), 0, api.ErrSpace)
					r.adds(4, ent(5, "a"), 0, api.ErrSpace, 7)
				})
				continue
			}
			r.adds(4, ent(5, "a"), 2+2*cost, api.OK)
			r.same("free", r.free(), free-cost)
			r.has(4, append(nths(0, 4*n), ent(5, "a"))...)
			r.adds(4, ent(6, "b"), 3+2*cost, api.OK)
		}
	}
}

// 22.2: sectors are taken from the directory's group on, and round.
func TestAddOverGroups(t *testing.T) {
	for taken, want := range map[int]int{0: 17, 8: 25, 9: 29, 18: 5, 26: 13} {
		m := blank(three)
		m.fill(1, 27-taken)
		r := fresh(t, 9, m)
		r.adds(6, ent(5, "a"), 4, api.OK)
		x := r.inode(6)
		r.same("the block", x.Direct[0], want)
		r.says(1<<((want-2)/12)|2, true)
	}
	m := blank(three)
	m.dir(4, 64*4, fulls(4)...)
	m.fill(1, 27-7)
	r := fresh(t, 9, m)
	r.adds(4, ent(5, "a"), 6, api.OK)
	r.are(1, bit(three, 1, 0, 255), content(24, ent(5, "a"), 4), bit(three, 1, 1, 1), hop(25, 0, 24, 4, 5, 1, 2), set(three, 4, 14, two(25), 5, 3, 4), size(three, 4, 320, 5))
	m.fill(1, 27-9)
	m.l[15] = sealed(api.KindMaps, api.Load{0b01111111, 1, 16: 7})
	r = fresh(t, 9, m)
	r.adds(4, ent(5, "a"), 6, api.OK)
	r.is(4, hop(29, 0, 24, 4, 5, 1, 2))
	r.says(6, true)
}

// 22.2: which error is told, where several apply: the directory, its kind, the entry's inode, its name, that it is there, that the directory is full, space.
func TestAddErrors(t *testing.T) {
	m := blank(three)
	m.set(2, api.Inode{Kind: api.InodeFile})
	m.set(3, api.Inode{})
	m.set(7, api.Inode{Kind: 77})
	m.dir(1, 64, fulls(1)...)
	m.set(8, api.Inode{Kind: api.InodeDir, Size: api.MaxSize})
	m.fill(0, 0)
	r := fresh(t, 9, m)
	r.leaves(func() {
		for _, name := range append(noNames, "n0", "a") {
			for _, ino := range append(noEntries, 1) {
				for _, d := range noInodes {
					r.adds(d, ent(ino, name), 0, api.ErrArg, 99)
				}
				for _, d := range []int{2, 3, 7} {
					r.adds(d, ent(ino, name), 0, api.ErrNotDir, 99)
				}
			}
			for _, ino := range noEntries {
				for _, d := range []int{1, 8} {
					r.adds(d, ent(ino, name), 0, api.ErrArg, 99)
				}
			}
		}
		for _, name := range noNames {
			r.adds(1, ent(1, name), 0, api.ErrName, 99)
			r.adds(8, ent(65535, name), 0, api.ErrName, 99)
		}
		for i := range 4 {
			r.adds(1, ent(9, nth(i).Name), 0, api.ErrExist, 99)
			r.adds(1, nth(i), 0, api.ErrExist)
		}
		r.adds(8, ent(1, "a"), 0, api.ErrBig, 99)
		r.adds(1, ent(1, "a"), 0, api.ErrSpace, 99)
	})
}

// 22.2: a name that is there is told wherever it is, also behind a slot that is empty; not one that is behind the size, in a slot that is bad, or in a block that is not right.
func TestAddExist(t *testing.T) {
	m := blank(one)
	p := full(2)
	p[13+5] = 1 // behind n9 and ahead of its end
	f := m.dir(1, 64*4, held{0, names(ent(0, ""), nth(1))}, held{1, full(1)}, held{2, p}, held{3, full(3)}, held{4, full(4)})
	m.l[f.block[1]][60] ^= 1
	r := fresh(t, 9, m)
	r.leaves(func() {
		for _, i := range []int{1, 8, 10, 11, 12, 13, 14, 15} {
			r.adds(1, ent(3, nth(i).Name), 0, api.ErrExist)
		}
	})
	for n, i := range []int{4, 9, 16} {
		r.adds(1, ent(3, nth(i).Name), n+1, api.OK)
	}
}

// 22.2, P2: needs that are no numbers given by then: ErrArg, as layer 14 tells, behind all others, and nothing is done.
func TestAddNeedsThatMayNotBe(t *testing.T) {
	for k := range 6 {
		m := blank(three)
		m.dir(1, 64*k, fulls(k)...)
		m.dir(5, 64*(k+1), append(fulls(k), held{k, names()})...)
		r := fresh(t, 9, m)
		r.patch(36, 0, 0, 1)
		r.patch(36, 1, 0, 1)
		r.leaves(func() {
			for _, needs := range [][]int{{0}, {-1}, {4}, {5}, {1, 2, 9}, {9, 1}, {math.MinInt}, {math.MaxInt}} {
				r.adds(1, ent(9, "a"), 0, api.ErrArg, needs...)
				r.adds(5, ent(9, "a"), 0, api.ErrArg, needs...)
			}
			r.adds(5, ent(9, "a"), 0, api.ErrArg, 3)
		})
		r.adds(5, ent(9, "a"), 3, api.OK, 2)
	}
}

// 22.2: the patch by which a sector is taken is given ahead of the content, so that layer 20 takes its number as a need.
func TestAddNeedsTheNext(t *testing.T) {
	r := fresh(t, 9, blank(one))
	r.adds(1, ent(9, "a"), 4, api.OK, 1)
	r.are(1, bit(one, 0, 0, 1), content(5, ent(9, "a"), 1, 1), set(one, 1, 6, two(5), 9, 1, 2), size(one, 1, 64, 3))
}

// 22.2, P2: ErrSeal: the inode's sector is not right, behind what is told without it; or a sector of pointers on the way to the block that would be hung in, behind space. Nothing is done.
func TestAddSeal(t *testing.T) {
	for n, b := range wrong(api.KindInode) {
		m := blank(three)
		m.dir(1, 64, fulls(1)...)
		m.l[4] = b
		m.fill(0, 0)
		r := fresh(t, 9, m)
		r.leaves(func() {
			r.adds(1, ent(5, "a"), 0, api.ErrSeal)
			r.adds(1, ent(5, "n0"), 0, api.ErrSeal, 9)
			r.adds(1, ent(0, "n0"), 0, api.ErrArg)
			r.adds(1, ent(0, "/"), 0, api.ErrArg)
			r.adds(1, ent(5, "/"), 0, api.ErrName)
		})
		r.adds(4, ent(5, "a"), 0, api.ErrSpace)
		if t.Failed() {
			t.Fatalf("wrong in way %d", n)
		}
	}
	for n, b := range wrong(api.KindPtrs) {
		for k, i := range map[int]int{4: 0, 5: 0, 30: 0, 31: 1, 32: 1, 58: 1, 33: 2, 57: 2, 59: 3} {
			m := blank(one)
			var blocks []held
			if k >= 31 {
				blocks = append(blocks, held{31, full(31)}, held{58, full(58)})
			} else {
				blocks = append(blocks, held{4, full(4)})
			}
			f := m.dir(2, 64*k, append(fulls(2), blocks...)...)
			m.l[f.tables[i]] = b
			r := fresh(t, 9, m)
			r.leaves(func() {
				r.adds(2, ent(5, "a"), 0, api.ErrSeal)
				r.adds(2, ent(5, "a"), 0, api.ErrSeal, 99)
				r.adds(2, ent(5, "n0"), 0, api.ErrExist)
			})
			m.fill(0, 0)
			r = fresh(t, 9, m)
			r.leaves(func() {
				r.adds(2, ent(5, "a"), 0, api.ErrSpace)
				r.adds(2, ent(5, "n0"), 0, api.ErrExist)
			})
			if t.Failed() {
				t.Fatalf("wrong in way %d, block %d", n, k)
			}
		}
	}
}

// 22.2: a sector of pointers that is not right, and not on the way, is nothing to the block that is hung in.
func TestAddBesideWrongTables(t *testing.T) {
	for k, i := range map[int]int{3: 0, 31: 0, 33: 0, 58: 2, 60: 2} {
		m := blank(one)
		f := m.dir(2, 64*k, held{4, full(4)}, held{31, full(31)}, held{58, full(58)})
		if k == 31 {
			f = m.dir(2, 64*k, held{4, full(4)})
		}
		if k == 58 {
			f = m.dir(2, 64*k, held{31, full(31)})
		}
		m.l[f.tables[i]][60] ^= 1
		r := fresh(t, 9, m)
		cost := dir.Cost(r.v, 2)
		r.adds(2, ent(5, "a"), 2+2*cost, api.OK)
		r.finds(2, "a", 5, api.OK)
	}
}

// 22.2, P2: pointers to sectors of pointers that the disk does not have are not right, either; and in sector 1, which may be one, none can be set, as layer 17 tells.
func TestAddTablesThatThereAreNot(t *testing.T) {
	for _, none := range []uint16{1, 2, 3, 4, 45, 46, 2048, 65535} {
		m := blank(three)
		m.set(5, api.Inode{Kind: 2, Size: 64 * 5, Single: none})
		m.set(6, api.Inode{Kind: 2, Size: 64 * 40, Double: none})
		r := fresh(t, 9, m)
		r.leaves(func() {
			r.adds(5, ent(5, "a"), 0, api.ErrSeal)
			r.adds(6, ent(5, "a"), 0, api.ErrSeal)
		})
	}
	m := blank(three)
	m.l[1] = sealed(api.KindPtrs, table(map[int]int{1: 25}))
	m.l[25] = sealed(api.KindPtrs, api.Load{})
	m.l[15] = sealed(api.KindMaps, api.Load{1: 1})
	m.set(4, api.Inode{Kind: 2, Size: 64 * 6, Single: 1})
	m.set(5, api.Inode{Kind: 2, Size: 64 * 31, Double: 1})
	m.set(6, api.Inode{Kind: 2, Size: 64 * 58, Double: 1})
	r := fresh(t, 9, m)
	r.leaves(func() {
		r.adds(4, ent(5, "a"), 0, api.ErrArg)
		r.adds(5, ent(5, "a"), 0, api.ErrArg)
	})
	r.adds(6, ent(5, "a"), 4, api.OK)
	r.is(3, leads(25, 0, 17, 6, 5, 1, 2))
}

// 22.2, P2: names in sector 1, which may be a block: no patch can be of that one, so that nothing is done there, as layer 17 tells.
func TestBlockInSectorOne(t *testing.T) {
	m := blank(one)
	m.l[1] = sealed(api.KindDir, names(ent(3, "a")))
	m.set(1, api.Inode{Kind: 2, Size: 64, Direct: [4]uint16{1}})
	r := fresh(t, 9, m)
	r.leaves(func() {
		r.has(1, ent(3, "a"))
		r.finds(1, "a", 3, api.OK)
		r.costs(1, 0)
		r.adds(1, ent(5, "b"), 0, api.ErrArg)
		r.takes(1, "a", 0, api.ErrArg)
		r.turns(1, "a", 7, 0, api.ErrArg)
	})
}

// 22.2, P1: what is handed in is not changed, and nothing of it is kept.
func TestAddKeepsNothing(t *testing.T) {
	m := blank(one)
	m.dir(2, 64, held{0, full(0)})
	r := fresh(t, 9, m)
	r.patch(40, 0, 0, 1)
	r.takes(2, "n3", 2, api.OK)
	needs := make([]int, 1, 5)
	needs[0] = 1
	behind := needs[:5]
	r.adds(2, ent(5, "a"), 3, api.OK, needs...)
	r.adds(2, ent(5, "b"), 7, api.OK, needs...)
	r.takes(2, "a", 8, api.OK, needs...)
	r.turns(2, "b", 9, 9, api.OK, needs...)
	r.same("the needs", behind, []int{1, 0, 0, 0, 0})
	clear(needs)
	for id, want := range map[int][]int{3: {1, 2}, 5: {1, 2}, 8: {1}, 9: {1, 2, 8}} {
		p, _ := r.v.Graph().Get(id)
		r.same("its needs", p.Needs, want)
	}
}
