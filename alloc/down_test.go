package alloc_test

import (
	"fmt"
	"testing"

	"scupper/alloc"
	"scupper/api"
	"scupper/nvram"
)

// calls is both calls that take a place, and where a place is by the words of chapter 6.
var calls = []struct {
	kind  int
	take  func(r *rig, group int) (int, int, api.Errno)
	where func(g api.Geom, group, i int) int
}{
	{api.KindRaw, func(r *rig, group int) (int, int, api.Errno) { return alloc.Block(r.v, group) }, dataAt},
	{api.KindInode, func(r *rig, group int) (int, int, api.Errno) { return alloc.Inode(r.v, group) }, inoAt},
}

func (r *rig) takes(n, group int, want ...any) {
	r.t.Helper()
	at, id, e := calls[n].take(r, group)
	r.same(fmt.Sprint("call ", n, " of ", group), []any{at, id, e}, want)
}

// downs is a rig whose power lasts for so many units, with words that are right and say these groups.
func downs(t *testing.T, units int, said uint32, loads ...api.Load) *rig {
	t.Helper()
	r := fresh(t, three, loads...)
	r.w.Keep(said)
	r.s.Limit(units)
	return r
}

// 18.1, P1, P2: the power goes while the group is marked: nothing is taken, and no number is given; what is asked for when the power is back is the same place, and the first patch.
func TestDown(t *testing.T) {
	for n, c := range calls {
		for units := range 3 {
			for group := range 3 {
				r := downs(t, units, 0)
				r.takes(n, group, 0, 0, api.ErrDown)
				r.pending(0, 0)
				r.avail(18, 9)
				r.free(c.kind, group, 0, true)
				for k := range 3 {
					r.same("maps", r.load(k), api.Load{})
				}
				r.says([]uint32{0, nvram.All(), nvram.All()}[units], units == 0)
				r.same("writes", r.d.Writes(), 0)
				r.same("used", r.s.Used(), 6+units) // Clear and Keep, and what was left
				r.s.Restore()
				r.takes(n, group, c.where(three, group, 0), 1, api.OK)
			}
		}
	}
}

// 18.1: three units are enough to mark a group, and the first place; then no more power is needed in that group, and in others it is.
func TestJustEnough(t *testing.T) {
	for n, c := range calls {
		r := downs(t, 3, 0)
		r.takes(n, 1, c.where(three, 1, 0), 1, api.OK)
		r.says(2, true)
		r.same("gone", r.s.Gone(), false)
		r.takes(n, 0, 0, 0, api.ErrDown)
		r.same("gone", r.s.Gone(), true)
		r.takes(n, 1, c.where(three, 1, 1), 2, api.OK)
		r.takes(n, 2, 0, 0, api.ErrDown)
		r.pending(2, 0)
		r.says(2, true)
	}
}

// 18.1: without power a place is taken all the same where its group need not be marked: it is marked, or the words are not right.
func TestDownNotNeeded(t *testing.T) {
	for n, c := range calls {
		r := downs(t, 0, 2)
		r.takes(n, 1, c.where(three, 1, 0), 1, api.OK)
		r.says(2, true)
		r.same("gone", r.s.Gone(), false)
		r = downs(t, 0, 0)
		r.w.Poke(2, 77)
		r.s.Use()
		r.takes(n, 0, c.where(three, 0, 0), 1, api.OK)
		r.pending(1, 0)
	}
}

// 18.1: it is the group in which the place lies that is marked, not the one that was asked.
func TestDownInAnotherGroup(t *testing.T) {
	full := api.Load{0: 63, 16: 7}
	for n, c := range calls {
		r := downs(t, 0, 1|4, full, api.Load{}, full)
		r.takes(n, 2, 0, 0, api.ErrDown)
		r.takes(n, 0, 0, 0, api.ErrDown)
		r.pending(0, 0)
		r.avail(6, 3)
		r = downs(t, 0, 2, full, api.Load{}, full)
		r.takes(n, 2, c.where(three, 1, 0), 1, api.OK)
		r.says(2, true)
	}
}

// 18.1: that no place is free is told ahead of that the power is gone, and a group that there is not ahead of both.
func TestSpaceAheadOfDown(t *testing.T) {
	full := api.Load{0: 63, 16: 7}
	for n := range calls {
		r := downs(t, 0, 0, full, full, full)
		r.s.Use()
		was := r.state()
		for group := range 3 {
			r.takes(n, group, 0, 0, api.ErrSpace)
		}
		r.takes(n, 3, 0, 0, api.ErrArg)
		r.takes(n, -1, 0, 0, api.ErrArg)
		r.same("what it left", r.state() == was, true)
	}
}

// stuck is a rig without power whose cache of two has sector 27 changed, which can't go, and, ahead of it, the maps of group 1; all groups are marked.
func stuck(t *testing.T, loads ...api.Load) *rig {
	t.Helper()
	r := of(t, three, 2, blank(three, loads...))
	r.w.Keep(7)
	r.patch(28, 0, 0, 1)
	r.patch(27, 0, 0, 1)
	r.s.Limit(0)
	r.same("Settle", r.v.Settle(1, 2), api.ErrDown)
	r.load(1)
	return r
}

// 18.1, 18.2, P2: maps that can't be read, since what must go from the cache can't be written: what lies behind them may not be the first, so that nothing is taken; what lies ahead of them is. By such maps nothing can be told to be free.
func TestUnread(t *testing.T) {
	for n, c := range calls {
		r := stuck(t)
		r.same("the cache", []any{r.v.Held(), r.v.Changed()}, []any{[]int{12, 27}, []int{27}})
		r.takes(n, 0, 0, 0, api.ErrDown)
		r.takes(n, 2, 0, 0, api.ErrDown)
		r.takes(n, 3, 0, 0, api.ErrArg)
		r.pending(2, 0)
		r.free(c.kind, 0, 0, false)
		r.avail(6, 3)
		r.takes(n, 1, c.where(three, 1, 0), 3, api.OK)
		r.s.Restore()
		r.avail(18-(1-n), 9-n)
		r.takes(n, 0, c.where(three, 0, 0), 4, api.OK)
		r.same("Sync", r.v.Sync(), api.OK)
		r.avail(18-2*(1-n), 9-2*n)

		// Group 1 has none, and whether those behind it have can't be told.
		r = stuck(t, api.Load{}, api.Load{0: 63, 16: 7})
		r.takes(n, 1, 0, 0, api.ErrDown)
		r.pending(2, 0)
		r.avail(0, 0)
		r.s.Restore()
		r.takes(n, 1, c.where(three, 2, 0), 3, api.OK)
	}
}
