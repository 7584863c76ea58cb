package bmap_test

import (
	"fmt"
	"math/bits"
	"testing"

	"scupper/api"
	"scupper/bmap"
	"scupper/nvram"
)

// spread is disks on which inode 4's next three sectors lie in these groups, and what is set up there: the inode's pointers, of which those that are not 0 lead to sectors of pointers.
func spread(left [3]int, x api.Inode) []api.Block {
	l := blank(three)
	for group, n := range left {
		take(three, l, group, 9-n)
	}
	for _, to := range []uint16{x.Single, x.Double} {
		if to != 0 {
			l[to] = sealed(api.KindPtrs, api.Load{})
		}
	}
	setInode(three, l, 4, x)
	return l
}

// downs is what is put where the power goes: the disk, the block, and the groups that are marked if it does not.
var downs = []struct {
	left   [3]int
	x      api.Inode
	k      int
	groups uint32
}{
	{[3]int{9, 9, 9}, api.Inode{}, 0, 2},
	{[3]int{9, 9, 9}, api.Inode{}, 4, 2},
	{[3]int{9, 9, 9}, api.Inode{}, 31, 2},
	{[3]int{9, 0, 9}, api.Inode{}, 3, 6},
	{[3]int{9, 0, 0}, api.Inode{}, 3, 3},
	{[3]int{9, 1, 9}, api.Inode{}, 30, 6},
	{[3]int{9, 1, 0}, api.Inode{}, 30, 3},
	{[3]int{9, 0, 9}, api.Inode{}, 30, 6},
	{[3]int{9, 0, 1}, api.Inode{}, 30, 7},
	{[3]int{9, 1, 1}, api.Inode{}, 759, 7},
	{[3]int{9, 2, 1}, api.Inode{}, 759, 6},
	{[3]int{9, 2, 0}, api.Inode{}, 759, 3},
	{[3]int{9, 0, 2}, api.Inode{}, 759, 7},
	{[3]int{9, 9, 9}, api.Inode{Single: 5}, 9, 3},
	{[3]int{1, 1, 1}, api.Inode{Single: 29}, 9, 6},
	{[3]int{1, 0, 0}, api.Inode{Single: 29}, 9, 5},
	{[3]int{9, 9, 9}, api.Inode{Double: 5}, 31, 3},
	{[3]int{1, 1, 1}, api.Inode{Double: 5}, 31, 7},
	{[3]int{0, 1, 1}, api.Inode{Double: 17}, 31, 6},
}

// 20.2, P1, P2: the power goes while groups are marked: nothing is hung in, and nothing taken, at whatever unit it goes; the words never say fewer than they did. When it is back all is as if that had not been.
func TestDown(t *testing.T) {
	for n, c := range downs {
		all := 3 * bits.OnesCount32(c.groups)
		whole := fresh(t, three, 9, spread(c.left, c.x))
		sector, last := whole.hangs(4, c.k, bmap.Content{Data: []byte{7}, Child: 3})
		whole.says(c.groups, true)
		for units := range all {
			r := fresh(t, three, 9, spread(c.left, c.x))
			r.s.Limit(units)
			was := r.graph()
			r.puts(4, c.k, bmap.Content{Data: []byte{7}, Child: 3}, 0, 0, api.ErrDown)
			r.same("the graph", r.graph() == was, true)
			r.same("the next number", r.next(), 1)
			r.same("writes", r.d.Writes(), 0)
			r.same("the inode", r.inode(4), c.x)
			r.finds(c.x, c.k, 0, api.OK)
			groups, right := r.w.Says()
			r.same("the words", right && groups&^c.groups != 0 || !right && groups != nvram.All(), false)
			r.s.Restore()
			r.puts(4, c.k, bmap.Content{Data: []byte{7}, Child: 3}, sector, last, api.OK)
			r.same("all patches", r.graph(), whole.graph())
		}
		r := fresh(t, three, 9, spread(c.left, c.x))
		r.s.Limit(all)
		r.puts(4, c.k, bmap.Content{Data: []byte{7}, Child: 3}, sector, last, api.OK)
		r.says(c.groups, true)
		r.same("gone", r.s.Gone(), false)
		r.same("all patches", r.graph(), whole.graph())
		if t.Failed() {
			t.Fatalf("case %d", n)
		}
	}
}

// 20.2: without power it is hung in all the same where no group need be marked: they are marked, or the words are not right.
func TestDownNotNeeded(t *testing.T) {
	for _, c := range downs {
		whole := fresh(t, three, 9, spread(c.left, c.x))
		sector, last := whole.hangs(4, c.k, bmap.Content{})
		r := fresh(t, three, 9, spread(c.left, c.x))
		r.w.Keep(c.groups)
		r.s.Limit(0)
		r.puts(4, c.k, bmap.Content{}, sector, last, api.OK)
		r.says(c.groups, true)
		r.same("gone", r.s.Gone(), false)
		r.same("all patches", r.graph(), whole.graph())
		r = fresh(t, three, 9, spread(c.left, c.x))
		r.w.Poke(2, 77)
		r.s.Limit(0)
		r.s.Use()
		r.puts(4, c.k, bmap.Content{}, sector, last, api.OK)
		r.says(nvram.All(), false)
		r.same("all patches", r.graph(), whole.graph())
	}
}

// 20.2: all other errors are told ahead of that the power is gone, and nothing is changed then. Of needs that may not be: where the sector can't be taken, that is told.
func TestOthersAheadOfDown(t *testing.T) {
	r := fresh(t, one, 9, spoilt())
	r.s.Limit(0)
	r.s.Use()
	r.leaves(func() {
		r.puts(4, 0, bmap.Content{}, 0, 0, api.ErrArg)
		r.puts(1, 760, bmap.Content{}, 0, 0, api.ErrBig)
		r.puts(1, 1, bmap.Content{}, 0, 0, api.ErrArg)
		r.puts(2, 5, bmap.Content{}, 0, 0, api.ErrSeal)
		for _, c := range bad {
			r.puts(1, 0, c, 0, 0, api.ErrArg)
		}
		r.puts(1, 0, bmap.Content{Needs: []int{1}}, 0, 0, api.ErrDown)
		r.puts(1, 0, bmap.Content{Needs: []int{2}}, 0, 0, api.ErrDown)
	})
	l := spoilt()
	take(one, l, 0, 40)
	r = fresh(t, one, 9, l)
	r.s.Limit(0)
	r.leaves(func() { r.puts(1, 0, bmap.Content{}, 0, 0, api.ErrSpace) })
}

// 20.2: needs that may not be, and power for the sector's group alone: the sector is taken.
func TestNeedsAndDown(t *testing.T) {
	l := blank(three)
	take(three, l, 1, 9)
	for units := range 5 {
		r := fresh(t, three, 9, l)
		r.s.Limit(units)
		if units < 3 {
			r.puts(4, 5, bmap.Content{Needs: []int{2}}, 0, 0, api.ErrDown)
			r.pending(0)
			continue
		}
		r.puts(4, 5, bmap.Content{Needs: []int{2}}, 0, 0, api.ErrArg)
		r.says(4, true)
		r.pending(1)
		r.same("gone", r.s.Gone(), false)
	}
}

// stuck is a rig without power whose cache of two has sector 37 changed, which can't go, and, ahead of it, this sector; all groups are marked.
func stuck(t *testing.T, l []api.Block, held int) *rig {
	t.Helper()
	r := fresh(t, three, 2, l)
	r.w.Keep(7)
	r.patch(36, 0, 0, 1)
	r.patch(37, 0, 0, 1)
	r.s.Limit(1) // the write of 36
	r.same("Settle", r.v.Settle(1, 2), api.ErrDown)
	r.v.Now(held)
	r.same("the cache", fmt.Sprint(r.v.Held(), r.v.Changed()), fmt.Sprint([]int{held, 37}, []int{37}))
	return r
}

// 20.1, 20.2, P2: sectors that can't be read, since what must go from the cache can't be written: Find tells ErrDown of a sector of pointers; there is nothing to be told behind it, so that Cost counts what lies there as missing; Put tells it of it and of the inode's, behind all that is told without reading it. Nothing is changed, and when the power is back all is there.
func TestUnread(t *testing.T) {
	l := blank(three)
	l[5], l[6] = sealed(api.KindPtrs, table(map[int]int{0: 7})), sealed(api.KindPtrs, table(map[int]int{0: 5}))
	take(three, l, 0, 3)
	x := api.Inode{Direct: [4]uint16{7}, Single: 5, Double: 6}
	setInode(three, l, 1, x)
	r := stuck(t, l, 6)
	was := r.graph()
	r.finds(x, 0, 7, api.OK)
	r.finds(x, 1, 0, api.OK)
	r.finds(x, 58, 0, api.OK)
	r.finds(x, 4, 0, api.ErrDown)
	r.finds(x, 31, 0, api.ErrDown)
	r.finds(x, 760, 0, api.ErrBig)
	r.costs(x, 4, 1)
	r.costs(x, 5, 1)
	r.costs(x, 31, 1)
	r.costs(x, 58, 2)
	r.costs(api.Inode{Double: 5}, 31, 2)
	r.blocks(x, bmap.Held{K: 0, Sector: 7})
	r.tables(x, 5, 6, 5)
	r.tables(api.Inode{Single: 6, Double: 5}, 6, 5)
	r.puts(1, 4, bmap.Content{}, 0, 0, api.ErrDown)
	r.puts(1, 0, bmap.Content{}, 0, 0, api.ErrDown)
	r.puts(1, 760, bmap.Content{}, 0, 0, api.ErrBig)
	r.puts(1, 4, bmap.Content{Kind: 7}, 0, 0, api.ErrArg)
	r.puts(10, 4, bmap.Content{}, 0, 0, api.ErrArg)
	r.same("the graph", r.graph() == was, true)
	r = stuck(t, l, 4)
	r.puts(1, 0, bmap.Content{}, 0, 0, api.ErrArg)
	r.puts(1, 5, bmap.Content{Kind: 7}, 0, 0, api.ErrArg)
	r.puts(1, 5, bmap.Content{}, 0, 0, api.ErrDown)
	r.puts(1, 31, bmap.Content{}, 0, 0, api.ErrDown)
	r.same("the graph", r.graph() == was, true)
	r.s.Restore()
	r.puts(1, 5, bmap.Content{}, 8, 5, api.OK)
	r.puts(1, 58, bmap.Content{}, 9, 10, api.OK)
	r.blocks(r.inode(1), bmap.Held{K: 0, Sector: 7}, bmap.Held{K: 4, Sector: 7}, bmap.Held{K: 5, Sector: 8}, bmap.Held{K: 31, Sector: 7}, bmap.Held{K: 32, Sector: 8}, bmap.Held{K: 58, Sector: 9})
}

// 20.2, P2: maps that can't be read: by them nothing is free, so that there is no space; when the power is back there is.
func TestMapsUnread(t *testing.T) {
	r := stuck(t, blank(three), 4)
	was := r.graph()
	r.puts(1, 0, bmap.Content{}, 0, 0, api.ErrSpace)
	r.puts(1, 31, bmap.Content{}, 0, 0, api.ErrSpace)
	r.same("the graph", r.graph() == was, true)
	r.s.Restore()
	r.puts(1, 31, bmap.Content{}, 5, 9, api.OK)
}

// 20.2, P2: maps that can't be read lie between those from which the next sectors would be taken: that is told ahead of all patches, so that no sector is taken.
func TestMapsBetweenUnread(t *testing.T) {
	l := blank(three)
	take(three, l, 1, 8)
	r := fresh(t, three, 2, l)
	r.w.Keep(7)
	r.patch(mapsAt(three, 0), 40, api.KindMaps, 0)
	r.patch(37, 0, 0, 1)
	r.s.Limit(0)
	r.same("Settle", r.v.Settle(1, 2), api.ErrDown)
	r.inode(4)
	r.same("the cache", fmt.Sprint(r.v.Held(), r.v.Changed()), "[16 3] [3]")
	was := r.graph()
	r.puts(4, 4, bmap.Content{}, 0, 0, api.ErrDown)
	r.same("the graph", r.graph() == was, true)
	r.s.Restore()
	r.puts(4, 4, bmap.Content{}, 25, 7, api.OK)
	r.tables(r.inode(4), 29)
}
