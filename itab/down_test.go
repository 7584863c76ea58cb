package itab_test

import (
	"testing"

	"scupper/api"
	"scupper/inode"
	"scupper/nvram"
)

// downs is a rig whose power lasts for so many units, with words that are right and say these groups.
func downs(t *testing.T, units int, said uint32) *rig {
	t.Helper()
	r := fresh(t, three, 9, full(three, unlike))
	r.w.Keep(said)
	r.s.Limit(units)
	return r
}

// 19.1, P1: the power goes while the group is marked: no number is told, and, as chapter 17 says of Patch's errors, the patch is in the graph all the same: the field is set, and nothing else is.
func TestDown(t *testing.T) {
	for units := range 3 {
		for ino := 1; ino <= count(three); ino++ {
			r := downs(t, units, 0)
			x := unlike(ino)
			x.Size = unlike(99).Size
			r.set(ino, inode.Size, unlike(99), nil, 0, api.ErrDown)
			r.same("the patch", r.told(1), r.wants(1, ino, 0, inode.Size, unlike(99)))
			r.about(ino, 7, inode.Links, unlike(98), []int{1}, [...]int{0, 2, 2}[units], [...]api.Errno{api.ErrDown, api.OK, api.OK}[units])
			r.same("the patch", r.told(2), r.wants(2, ino, 7, inode.Links, unlike(98), 1))
			x.Links = unlike(98).Links
			for n := 1; n <= count(three); n++ {
				if n == ino {
					r.is(n, x, api.OK)
					continue
				}
				r.is(n, unlike(n), api.OK)
			}
			r.says([...]uint32{0, nvram.All(), nvram.All()}[units], units == 0)
			r.same("writes", r.d.Writes(), 0)
			r.s.Restore()
			r.set(ino, inode.Size, unlike(97), nil, 3, api.OK)
		}
	}
}

// 19.1: three units are enough to mark a group; then no more power is needed in that group, and in others it is.
func TestJustEnough(t *testing.T) {
	r := downs(t, 3, 0)
	r.set(7, inode.Size, unlike(99), nil, 1, api.OK)
	r.says(2, true)
	r.same("gone", r.s.Gone(), false)
	r.set(6, inode.Size, unlike(99), nil, 0, api.ErrDown)
	r.same("gone", r.s.Gone(), true)
	r.set(12, inode.All, unlike(99), nil, 3, api.OK)
	r.about(13, 1, inode.Size, unlike(99), nil, 0, api.ErrDown)
	r.about(9, 1, inode.Size, unlike(99), nil, 5, api.OK)
	r.says(2, true)
}

// 19.1: without power a field is set where its group need not be marked: it is marked, or the words are not right.
func TestDownNotNeeded(t *testing.T) {
	r := downs(t, 0, 4)
	r.set(13, inode.Size, unlike(99), nil, 1, api.OK)
	r.says(4, true)
	r.same("gone", r.s.Gone(), false)
	r = downs(t, 0, 0)
	r.w.Poke(2, 77)
	r.s.Use()
	for ino := 1; ino <= count(three); ino++ {
		r.set(ino, inode.All, unlike(ino+20), nil, ino, api.OK)
		r.is(ino, unlike(ino+20), api.OK)
	}
}

// 19.1, P2: an inode, a field and needs that may not be are told ahead of that the power is gone, and nothing is changed then.
func TestArgAheadOfDown(t *testing.T) {
	r := downs(t, 0, 0)
	r.s.Use()
	r.leaves(func() {
		for _, ino := range noInodes {
			r.is(ino, api.Inode{}, api.ErrArg)
			r.set(ino, inode.Size, unlike(99), nil, 0, api.ErrArg)
		}
		for _, f := range noFields {
			r.about(5, 1, f, unlike(99), nil, 0, api.ErrArg)
		}
		r.set(5, inode.Size, unlike(99), []int{1}, 0, api.ErrArg)
	})
}

// 19.1, 19.2, P2: a sector that can't be read, since what must go from the cache can't be written: its inodes tell ErrDown, and are none of All; all is as it was, and they are there when the power is back. A field is set all the same.
func TestUnread(t *testing.T) {
	r := fresh(t, three, 2, full(three, unlike))
	r.w.Keep(7)
	r.patch(25, 0, 0, 1)
	r.patch(24, 0, 0, 1)
	r.s.Limit(0)
	r.same("Settle", r.v.Settle(1, 2), api.ErrDown)
	r.is(13, unlike(13), api.OK)
	r.same("the cache", []any{r.v.Held(), r.v.Changed()}, []any{[]int{20, 24}, []int{24}})
	image := r.d.Image()
	r.is(1, api.Inode{}, api.ErrDown)
	r.is(18, api.Inode{}, api.ErrDown)
	r.is(19, api.Inode{}, api.ErrArg)
	// Sector 20 was used last, so that nothing else can come in; All begins with others, which can't either.
	r.same("the cache", []any{r.v.Held(), r.v.Changed()}, []any{[]int{20, 24}, []int{24}})
	r.all(13, 14, 15)
	r.set(1, inode.Links, unlike(99), nil, 3, api.OK)
	r.is(1, api.Inode{}, api.ErrDown)
	r.set(14, inode.All, api.Inode{}, nil, 4, api.OK)
	r.all(13, 15)
	r.same("the disk", r.d.Image(), image)
	r.s.Restore()
	x := unlike(1)
	x.Links = unlike(99).Links
	r.is(1, x, api.OK)
	r.is(18, unlike(18), api.OK)
	r.all(1, 2, 3, 4, 5, 6, 7, 8, 9, 10, 11, 12, 13, 15, 16, 17, 18)
}
