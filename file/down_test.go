package file_test

import (
	"fmt"
	"math/bits"
	"testing"

	"scupper/api"
	"scupper/file"
	"scupper/nvram"
)

// deed is a call that changes something, on a disk that is made for it, and the groups that are marked by it.
type deed struct {
	name   string
	disk   func() *image
	do     func(r *rig) api.Errno
	groups uint32
}

// deeds is such calls: their sectors lie in one group, in two, and in all.
func deeds() []deed {
	write := func(ino, off, n int) func(r *rig) api.Errno {
		return func(r *rig) api.Errno { return file.Write(r.v, ino, off, text(n)) }
	}
	cut := func(ino, size int) func(r *rig) api.Errno {
		return func(r *rig) api.Errno { return file.Cut(r.v, ino, size) }
	}
	drop := func(ino int, needs ...int) func(r *rig) api.Errno {
		return func(r *rig) api.Errno { return file.Drop(r.v, ino, needs...) }
	}
	// Inode 4's blocks lie where there is room behind what is taken from group 1 on.
	file := func(taken, size int, ks ...int) func() *image {
		return func() *image {
			m := blank(three)
			m.fill(1, 27-taken)
			m.file(4, size, ks...)
			return m
		}
	}
	return []deed{
		{"a block that is there", file(0, 64, 0), write(4, 3, 9), 2},
		{"a block that is there, in another group", file(9, 64, 0), write(4, 3, 9), 4},
		{"and beyond the size", file(9, 10, 0), write(4, 3, 9), 6},
		{"blocks of two groups", file(8, 128, 0, 1), write(4, 3, 100), 6},
		{"a block that is missing", file(0, 640), write(4, 3, 9), 2},
		{"one from another group", file(9, 640), write(4, 3, 9), 6},
		{"one from the first group", file(18, 640), write(4, 3, 9), 3},
		{"with a sector of pointers", file(8, 640), write(4, 256, 9), 6},
		{"several, from all groups", file(8, 0), write(4, 64, 64*11), 7},
		{"some of them there", file(16, 64*40, 5), write(4, 300, 64*4), 5},
		{"of Double", file(8, 64*40), write(4, 64*31, 9), 6},
		{"behind Double", file(7, 64*40, 31), write(4, 64*40, 200), 6},
		{"with pointers in another group", file(9, 64*20, 5), write(4, 64*7, 64), 4},
		{"to the same size", file(9, 64, 0), cut(4, 64), 2},
		{"to more", file(9, 64, 0), cut(4, 99), 2},
		{"to less", file(0, 64, 0), cut(4, 10), 2},
		{"to less, in another group", file(9, 64, 0), cut(4, 10), 6},
		{"to none", file(8, 128, 0, 1), cut(4, 0), 6},
		{"to none, in all groups", file(17, 128, 0, 1), cut(4, 0), 7},
		{"of Single", file(8, 64*9, 4, 5, 6), cut(4, 64*5), 6},
		{"of Single, with a block in another group", file(7, 64*9, 4, 5), cut(4, 64*5), 6},
		{"of Double, with blocks in other groups", file(6, 64*60, 31, 58), cut(4, 64*32), 6},
		{"of Double's", file(16, 64*90, 31, 32, 58, 59), cut(4, 64*31+1), 7},
		{"a file without bytes", file(9, 0), drop(4), 2},
		{"a file", file(8, 128, 0, 1), drop(4), 6},
		{"a file of all groups", file(17, 64*32, 0, 31), drop(4, 1), 7},
	}
}

// began is a rig on which a deed can be done: a patch of a sector that no file has is stable.
func (d deed) began(t *testing.T, held int) *rig {
	t.Helper()
	r := fresh(t, held, d.disk())
	id, e := r.v.Patch(api.Patch{At: 13, Data: []byte{1}})
	r.same("Patch", []any{id, e}, []any{1, api.OK})
	r.syncs()
	r.says(0, true)
	return r
}

// 21.1, 21.2, P1, P2: the power goes while groups are marked: nothing is done, at whatever unit it goes; the words never say fewer than they did, nor a group of which nothing would be changed. When it is back all is as if that had not been.
func TestDown(t *testing.T) {
	for _, c := range deeds() {
		all := 3 * bits.OnesCount32(c.groups)
		whole := c.began(t, 9)
		whole.same("it", c.do(whole), api.OK)
		whole.says(c.groups, true)
		for units := range all {
			r := c.began(t, 9)
			r.s.Limit(units)
			was, next, free := r.graph(), r.next(), r.free()
			x := r.inode(4)
			r.same("it", c.do(r), api.ErrDown)
			r.same("what is left", []any{r.graph() == was, r.next(), r.free(), r.inode(4)}, []any{true, next, free, x})
			groups, right := r.w.Says()
			r.same("the words", right && groups&^c.groups != 0 || !right && groups != nvram.All(), false)
			r.s.Restore()
			r.same("it, again", c.do(r), api.OK)
			r.same("all patches", r.graph(), whole.graph())
		}
		r := c.began(t, 9)
		r.s.Limit(all)
		r.same("it", c.do(r), api.OK)
		r.says(c.groups, true)
		r.same("gone", r.s.Gone(), false)
		r.same("all patches", r.graph(), whole.graph())
		if t.Failed() {
			t.Fatal(c.name)
		}
	}
}

// 21.1, 21.2: without power it is done all the same where no group need be marked: they are marked, or the words are not right.
func TestDownNotNeeded(t *testing.T) {
	for _, c := range deeds() {
		whole := c.began(t, 9)
		whole.same("it", c.do(whole), api.OK)
		for _, how := range []func(r *rig){func(r *rig) { r.w.Keep(c.groups) }, func(r *rig) { r.w.Poke(2, 77) }} {
			r := c.began(t, 9)
			how(r)
			says := fmt.Sprint(r.w.Says())
			r.s.Limit(0)
			r.same("it", c.do(r), api.OK)
			r.same("gone", r.s.Gone(), false)
			r.same("the words", fmt.Sprint(r.w.Says()), says)
			r.same("all patches", r.graph(), whole.graph())
		}
		if t.Failed() {
			t.Fatal(c.name)
		}
	}
}

// 21.1, 21.2: all other errors are told ahead of that the power is gone, and nothing is changed then; what changes nothing needs none.
func TestOthersAheadOfDown(t *testing.T) {
	m := spoilt()
	m.fill(0, 0)
	r := fresh(t, 9, m)
	r.s.Limit(0)
	r.s.Use()
	r.leaves(func() {
		r.writes(2, 0, text(1), api.ErrArg)
		r.writes(1, -1, text(1), api.ErrArg)
		r.writes(1, api.MaxSize, text(1), api.ErrBig)
		r.writes(4, 0, text(1), api.ErrSeal)
		r.writes(1, 250, text(9), api.ErrSpace)
		r.cuts(2, 0, api.ErrArg)
		r.cuts(1, -1, api.ErrArg)
		r.cuts(1, api.MaxSize+1, api.ErrBig)
		r.cuts(4, 0, api.ErrSeal)
		r.drops(2, api.ErrArg)
		r.drops(1, api.ErrArg, 1)
		r.drops(4, api.ErrSeal)
		r.writes(1, 250, nil, api.OK)
		r.reads(1, 0, 256, bytesFrom(0, 256), api.OK)
		r.writes(1, 0, text(1), api.ErrDown)
		r.cuts(1, 256, api.ErrDown)
		r.cuts(1, 257, api.ErrDown)
		r.cuts(1, 9, api.ErrDown)
		r.drops(1, api.ErrDown)
	})
	r = fresh(t, 9, spoilt())
	r.s.Limit(0)
	r.leaves(func() { r.writes(3, 256, text(1), api.ErrSeal) })
}

// stuck is a rig without power whose cache holds as many sectors as these and one more, which is changed and can't go; all groups are marked. Ahead of it the cache holds these, the last one used last.
func stuck(t *testing.T, m *image, held ...int) *rig {
	t.Helper()
	r := fresh(t, 1+len(held), m)
	r.w.Keep(7)
	r.patch(36, 0, 0, 1)
	r.patch(37, 0, 0, 1)
	r.s.Limit(1) // the write of 36
	r.same("Settle", r.v.Settle(1, 2), api.ErrDown)
	for _, sector := range held {
		_, e := r.v.Now(sector)
		r.same("held", e, api.OK)
	}
	r.same("changed", r.v.Changed(), []int{37})
	return r
}

// 21.1, 21.2, P2: sectors that can't be read, since what must go from the cache can't be written: ErrDown, behind all that is told without reading them; nothing is done, and when the power is back all is there.
func TestUnread(t *testing.T) {
	build := func() (*image, *made) {
		m := blank(three)
		return m, m.file(1, 64*40, 0, 5, 31)
	}
	m, f := build()
	// Not even the inode.
	r := stuck(t, m, 5)
	was := r.graph()
	r.reads(1, 0, 1, nil, api.ErrDown)
	r.reads(1, -1, 1, nil, api.ErrArg)
	r.reads(10, 0, 1, nil, api.ErrArg)
	r.writes(1, 0, text(1), api.ErrDown)
	r.writes(1, 0, nil, api.ErrDown)
	r.writes(1, api.MaxSize, text(1), api.ErrBig)
	r.cuts(1, 0, api.ErrDown)
	r.cuts(1, api.MaxSize+1, api.ErrBig)
	r.drops(1, api.ErrDown)
	r.drops(1, api.ErrArg, 3)
	r.same("the graph", r.graph() == was, true)
	// The inode, and the first block, but no sector of pointers.
	r = stuck(t, m, 4, f.block[0])
	r.reads(1, 0, 70, append(bytesFrom(0, 64), make([]byte, 6)...), api.OK)
	r.reads(1, 0, 321, nil, api.ErrDown)
	r.writes(1, 60, text(4), api.OK)
	was = r.graph()
	r.writes(1, 320, text(1), api.ErrDown)
	r.cuts(1, 64*30, api.ErrDown)
	r.cuts(1, 0, api.ErrDown)
	r.drops(1, api.ErrDown)
	r.same("the graph", r.graph() == was, true)
	// All but one of them.
	for _, leave := range []int{1, 2} {
		m, f := build()
		held := []int{4, f.tables[0]}
		r = stuck(t, m, append(held, f.tables[leave])...)
		was = r.graph()
		r.cuts(1, 0, api.ErrDown)
		r.drops(1, api.ErrDown)
		r.cuts(1, 64*40+1, api.OK)
		r.same("the inode", r.inode(1).Size, 64*40+1)
		r.s.Restore()
		r.drops(1, api.OK)
		r.syncs()
		r.same("free", r.free(), 27)
	}
}

// 21.1, P2: maps that can't be read: by them nothing is free, so that there is no space; a sector that will be one of pointers, and can't be read, lets nothing be done.
func TestWriteUnread(t *testing.T) {
	r := stuck(t, blank(three), 4)
	was := r.graph()
	r.writes(1, 0, text(1), api.ErrSpace)
	r.same("the graph", r.graph() == was, true)
	r.s.Restore()
	r.writes(1, 0, text(1), api.OK)
	// Of one group alone, so that its maps and the inode are all that must be read.
	m := blank(least)
	r = fresh(t, 3, m)
	r.w.Keep(1)
	r.patch(7, 0, 0, 1)
	r.patch(8, 0, 0, 1)
	r.s.Limit(1)
	r.same("Settle", r.v.Settle(1, 2), api.ErrDown)
	r.inode(1)
	was = r.graph()
	r.writes(1, 256, text(65), api.ErrDown) // its second block would be pointed to from a sector that is not read yet
	r.same("the graph", r.graph() == was, true)
	r.writes(1, 0, text(65), api.OK)
	r.reads(1, 0, 1, nil, api.ErrDown)
	r.s.Restore()
	r.reads(1, 0, 65, text(65), api.OK)
	// Where that one is held, no other one need be.
	r = fresh(t, 4, m)
	r.w.Keep(1)
	r.patch(7, 0, 0, 1)
	r.patch(8, 0, 0, 1)
	r.s.Limit(1)
	r.same("Settle", r.v.Settle(1, 2), api.ErrDown)
	for _, sector := range []int{6, 4, 3} {
		r.v.Now(sector)
	}
	r.writes(1, 256, text(65), api.OK)
	r.same("the inode", r.inode(1), api.Inode{Kind: 1, Size: 321, Single: 6})
}

// 21.1, P2: maps that can't be read lie between those from which the next sectors would be taken: that is told ahead of all patches, so that no block is hung in.
func TestWriteMapsBetweenUnread(t *testing.T) {
	m := blank(three)
	m.fill(1, 27-8)
	r := fresh(t, 4, m)
	r.w.Keep(7)
	r.patch(3, 40, api.KindMaps, 0)
	r.patch(36, 0, 0, 1)
	r.patch(37, 0, 0, 1)
	r.s.Limit(0)
	r.same("Settle", []any{r.v.Settle(1, 3), r.v.Settle(2, 3)}, []any{api.ErrDown, api.ErrDown})
	r.v.Now(16)
	r.v.Now(15)
	r.same("the cache", fmt.Sprint(r.v.Held(), r.v.Changed()), "[15 16 36 3] [3 36]")
	was := r.graph()
	r.writes(4, 0, text(65), api.ErrDown)
	r.same("the graph", r.graph() == was, true)
	r.writes(4, 0, text(64), api.OK)
	r.s.Restore()
	r.writes(4, 64, text(64), api.OK)
	r.same("the blocks", r.inode(4).Direct, []int{25, 29, 0, 0})
}
