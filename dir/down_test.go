package dir_test

import (
	"fmt"
	"math/bits"
	"testing"

	"scupper/api"
	"scupper/dir"
	"scupper/nvram"
)

// deed is a call that changes something, on a disk that is made for it, and the groups that are marked by it.
type deed struct {
	name   string
	disk   func() *image
	do     func(r *rig) (int, api.Errno)
	groups uint32
}

// deeds is such calls: their sectors lie in one group, in two, and in all.
func deeds() []deed {
	add := func(r *rig) (int, api.Errno) { return dir.Add(r.v, 4, ent(500, "new"), 1) }
	take := func(r *rig) (int, api.Errno) { return dir.Take(r.v, 4, "n2", 1) }
	turn := func(r *rig) (int, api.Errno) { return dir.Turn(r.v, 4, "n2", 500, 1) }
	// Inode 4's blocks lie where there is room behind what is taken from group 1 on.
	made := func(taken, blocks int, l ...held) func() *image {
		return func() *image {
			m := blank(three)
			m.fill(1, 27-taken)
			m.dir(4, 64*blocks, l...)
			return m
		}
	}
	some := held{0, names(nth(0), ent(0, ""), nth(2))}
	far, further := held{31, full(31)}, held{58, full(58)}
	return []deed{
		{"into a slot", made(0, 1, some), add, 2},
		{"into a slot, in another group", made(9, 1, some), add, 4},
		{"into a slot, in the first group", made(18, 1, some), add, 1},
		{"a name is taken", made(0, 1, some), take, 2},
		{"a name is taken, in another group", made(9, 1, some), take, 4},
		{"a name is turned", made(0, 1, some), turn, 2},
		{"a name is turned, in the first group", made(18, 1, some), turn, 1},
		{"the first block", made(0, 0), add, 2},
		{"the first block, in another group", made(9, 0), add, 6},
		{"the first block, in the first group", made(18, 0), add, 3},
		{"behind others", made(7, 3, fulls(3)...), add, 6},
		{"with Single", made(4, 4, fulls(4)...), add, 6},
		{"with Single, in all groups", made(17, 4), add, 7},
		{"behind Single", made(3, 5, fulls(5)...), add, 6},
		{"behind Single, all in another group", made(9, 5, fulls(5)...), add, 6},
		{"behind Single, in the first group", made(18, 5, fulls(5)...), add, 3},
		{"with Double", made(8, 31), add, 6},
		{"with Double, in all groups", made(17, 31), add, 7},
		{"behind Double", made(7, 32, far), add, 6},
		{"behind Double, all in another group", made(9, 32, far), add, 6},
		{"behind Double, all in the first group", made(18, 59, far, further), add, 3},
		{"with one of Double's", made(8, 58, far), add, 6},
		{"with one of Double's, in all groups", made(14, 58, far), add, 7},
		{"with one of Double's, which is in another group", made(15, 58, far), add, 7},
		{"with one of Double's, in the first group", made(16, 58, far), add, 3},
	}
}

// began is a rig on which a deed can be done: a patch of a sector that no directory has is stable.
func (d deed) began(t *testing.T) *rig {
	t.Helper()
	r := fresh(t, 9, d.disk())
	r.same("Patch", r.patch(13, 0, 0, 1), 1)
	r.syncs()
	r.says(0, true)
	return r
}

// 22.2, P1, P2: the power goes while groups are marked: nothing is done, at whatever unit it goes; the words never say fewer than they did, nor a group of which nothing would be changed. When it is back all is as if that had not been.
func TestDown(t *testing.T) {
	for _, c := range deeds() {
		all := 3 * bits.OnesCount32(c.groups)
		whole := c.began(t)
		last, e := c.do(whole)
		whole.same("it", []any{last, e}, []any{whole.next() - 1, api.OK})
		whole.says(c.groups, true)
		for units := range all {
			r := c.began(t)
			r.s.Limit(units)
			was, next, free := r.graph(), r.next(), r.free()
			x, l := r.inode(4), fmt.Sprint(dir.List(r.v, 4))
			id, e := c.do(r)
			r.same("it", []any{id, e}, []any{0, api.ErrDown})
			r.same("what is left", []any{r.graph() == was, r.next(), r.free(), r.inode(4), fmt.Sprint(dir.List(r.v, 4))}, []any{true, next, free, x, l})
			groups, right := r.w.Says()
			r.same("the words", right && groups&^c.groups != 0 || !right && groups != nvram.All(), false)
			r.s.Restore()
			id, e = c.do(r)
			r.same("it, again", []any{id, e}, []any{last, api.OK})
			r.same("all patches", r.graph(), whole.graph())
		}
		r := c.began(t)
		r.s.Limit(all)
		id, e := c.do(r)
		r.same("it", []any{id, e}, []any{last, api.OK})
		r.says(c.groups, true)
		r.same("gone", r.s.Gone(), false)
		r.same("all patches", r.graph(), whole.graph())
		if t.Failed() {
			t.Fatal(c.name)
		}
	}
}

// 22.2: without power it is done all the same where no group need be marked: they are marked, or the words are not right.
func TestDownNotNeeded(t *testing.T) {
	for _, c := range deeds() {
		whole := c.began(t)
		_, e := c.do(whole)
		whole.same("it", e, api.OK)
		for _, how := range []func(r *rig){func(r *rig) { r.w.Keep(c.groups) }, func(r *rig) { r.w.Poke(2, 77) }} {
			r := c.began(t)
			how(r)
			says := fmt.Sprint(r.w.Says())
			r.s.Limit(0)
			_, e := c.do(r)
			r.same("it", e, api.OK)
			r.same("gone", r.s.Gone(), false)
			r.same("the words", fmt.Sprint(r.w.Says()), says)
			r.same("all patches", r.graph(), whole.graph())
		}
		if t.Failed() {
			t.Fatal(c.name)
		}
	}
}

// 22.1, 22.2: all other errors are told ahead of that the power is gone, and nothing is changed then; asking needs none.
func TestOthersAheadOfDown(t *testing.T) {
	m := blank(three)
	m.set(2, api.Inode{Kind: api.InodeFile})
	m.dir(1, 64*5, held{0, full(0)}, held{3, full(3)})
	m.set(3, api.Inode{Kind: api.InodeDir, Size: api.MaxSize})
	m.l[16] = wrong(api.KindInode)[0]
	f := m.dir(7, 64*5, held{4, full(4)})
	m.l[f.tables[0]][9] ^= 1
	m.fill(0, 1)
	r := fresh(t, 9, m)
	r.s.Limit(0)
	r.s.Use()
	r.leaves(func() {
		r.adds(0, ent(1, "a"), 0, api.ErrArg)
		r.adds(2, ent(1, "a"), 0, api.ErrNotDir)
		r.adds(1, ent(0, "a"), 0, api.ErrArg)
		r.adds(1, ent(1, "/"), 0, api.ErrName)
		r.adds(1, ent(1, "n0"), 0, api.ErrExist)
		r.adds(3, ent(1, "a"), 0, api.ErrBig)
		r.adds(1, ent(1, "a"), 0, api.ErrSpace)
		r.adds(4, ent(1, "a"), 0, api.ErrSeal)
		r.adds(7, ent(1, "a"), 0, api.ErrSeal)
		r.adds(8, ent(1, "a"), 0, api.ErrArg, 5)
		r.adds(8, ent(1, "a"), 0, api.ErrDown)
		r.takes(1, "a", 0, api.ErrNoEnt)
		r.takes(4, "n0", 0, api.ErrSeal)
		r.takes(1, "n0", 0, api.ErrArg, 5)
		r.takes(1, "n0", 0, api.ErrDown)
		r.turns(1, "n0", 0, 0, api.ErrArg)
		r.turns(1, "a", 1, 0, api.ErrNoEnt)
		r.turns(4, "n0", 1, 0, api.ErrSeal)
		r.turns(1, "n0", 1, 0, api.ErrArg, 5)
		r.turns(1, "n0", 1, 0, api.ErrDown)
		r.has(1, append(nths(0, 4), nths(12, 16)...)...)
		r.finds(1, "n12", nth(12).Ino, api.OK)
		r.costs(1, 2)
		r.losses(1)
	})
}

// stuck is a rig without power whose cache holds as many sectors as these and one more, which is changed and can't go; all groups are marked. Ahead of it the cache holds these, the last one used last.
func stuck(t *testing.T, m *image, held ...int) *rig {
	t.Helper()
	r := fresh(t, 1+len(held), m)
	r.w.Keep(7)
	r.patch(36, 0, 0, 1)
	r.patch(37, 0, 0, 1)
	r.s.Limit(1) // the write of 36
	r.same("Settle", r.v.Settle(1, 2), api.ErrDown)
	for _, sector := range held {
		_, e := r.v.Now(sector)
		r.same("held", e, api.OK)
	}
	r.same("changed", r.v.Changed(), []int{37})
	return r
}

// 22.1, 22.2, P2: the inode's sector can't be read, since what must go from the cache can't be written: ErrDown, behind all that is told without reading it.
func TestUnreadInode(t *testing.T) {
	m := blank(three)
	m.dir(1, 64, fulls(1)...)
	r := stuck(t, m, 5)
	was := r.graph()
	r.lists(1, api.ErrDown)
	r.lists(10, api.ErrArg)
	r.finds(1, "n0", 0, api.ErrDown)
	r.finds(1, "/", 0, api.ErrName)
	r.costs(1, 0)
	r.losses(1)
	r.adds(1, ent(1, "a"), 0, api.ErrDown)
	r.adds(1, ent(0, "a"), 0, api.ErrArg)
	r.adds(1, ent(1, "/"), 0, api.ErrName)
	r.takes(1, "n0", 0, api.ErrDown)
	r.takes(1, "/", 0, api.ErrName)
	r.turns(1, "n0", 1, 0, api.ErrDown)
	r.turns(1, "n0", 0, 0, api.ErrArg)
	r.same("the graph", r.graph() == was, true)
}

// 22.1, 22.2, P2: a block, or a sector of pointers, that can't be read may have a name, the first one of it, and the first room: ErrDown, but where that is told all the same. Nothing is done, and when the power is back all is there.
func TestUnreadBlocks(t *testing.T) {
	build := func() (*image, *made) {
		m := blank(three)
		return m, m.dir(1, 64*33, held{0, full(0)}, held{1, names(nth(4), ent(0, ""), nth(6))}, held{5, full(5)}, held{31, names(nth(124))}, held{32, full(32)})
	}
	ask := func(r *rig, has func(k int) bool, all bool) {
		t.Helper()
		was := r.graph()
		ahead := true
		for _, k := range []int{0, 1, 5, 31, 32} {
			ahead = ahead && has(k)
			e := nth(4 * k)
			switch {
			case ahead:
				r.finds(1, e.Name, e.Ino, api.OK)
			default:
				r.finds(1, e.Name, 0, api.ErrDown)
				r.takes(1, e.Name, 0, api.ErrDown)
				r.turns(1, e.Name, 9, 0, api.ErrDown)
			}
			if has(k) {
				r.adds(1, ent(9, e.Name), 0, api.ErrExist)
			} else {
				r.adds(1, ent(9, e.Name), 0, api.ErrDown)
			}
		}
		if !all {
			r.lists(1, api.ErrDown)
			r.finds(1, "a", 0, api.ErrDown)
			r.adds(1, ent(9, "a"), 0, api.ErrDown)
		}
		r.same("the graph", r.graph() == was, true)
	}
	_, f := build()
	sectors := []int{f.block[0], f.block[1], f.block[5], f.block[31], f.block[32], f.tables[0], f.tables[1], f.tables[2]}
	needs := map[int][]int{0: {0}, 1: {1}, 5: {2, 5}, 31: {3, 6, 7}, 32: {4, 6, 7}}
	for mask := range 1 << len(sectors) {
		m, _ := build()
		held := []int{4}
		for i, sector := range sectors {
			if mask>>i&1 == 1 {
				held = append(held, sector)
			}
		}
		has := func(k int) bool {
			for _, i := range needs[k] {
				if mask>>i&1 == 0 {
					return false
				}
			}
			return true
		}
		r := stuck(t, m, held...)
		ask(r, has, mask == 1<<len(sectors)-1)
		if has(1) || has(31) {
			r.costs(1, 0)
		}
		r.s.Restore()
		r.adds(1, ent(9, "a"), 3, api.OK)
		r.is(3, added(f.block[1], 1, ent(9, "a"), 1))
		if t.Failed() {
			t.Fatalf("held: %v", held)
		}
	}
}

// 22.1, 22.2: where all can be read that is asked for, what else can't be is nothing to the call.
func TestUnreadOthers(t *testing.T) {
	m := blank(three)
	f := m.dir(1, 64*2, held{0, full(0)}, held{1, names(nth(4))}, held{2, full(2)})
	r := stuck(t, m, 4, f.block[0], f.block[1])
	r.has(1, nths(0, 5)...)
	r.adds(1, ent(9, "a"), 3, api.OK)
	r.takes(1, "n0", 4, api.OK)
	r.turns(1, "n4", 6, 5, api.OK, 2)
	r.is(5, turned(f.block[1], 0, 6, 1, 2, 4))
	r.has(1, nth(1), nth(2), nth(3), ent(6, "n4"), ent(9, "a"))
}

// 22.2, P2: the way to the block that would be hung in can't be read: ErrDown ahead of space, as nobody knows what would be taken; maps that can't be read have no room.
func TestAddUnread(t *testing.T) {
	m := blank(three)
	m.dir(1, 64*5)
	r := stuck(t, m, 4)
	was := r.graph()
	r.adds(1, ent(9, "a"), 0, api.ErrSpace)
	r.same("the graph", r.graph() == was, true)
	m = blank(three)
	f := m.dir(1, 64*4, fulls(5)...)
	r = stuck(t, m, 4, f.block[0], f.block[1], f.block[2], f.block[3])
	was = r.graph()
	r.adds(1, ent(9, "a"), 0, api.ErrDown)
	r.has(1, nths(0, 16)...)
	r.same("the graph", r.graph() == was, true)
	// Single is held, and the maps are not.
	f = m.dir(1, 64*5, fulls(5)...)
	r = stuck(t, m, 4, f.block[0], f.block[1], f.block[2], f.block[3], f.block[4], f.tables[0])
	was = r.graph()
	r.adds(1, ent(9, "a"), 0, api.ErrSpace)
	r.same("the graph", r.graph() == was, true)
	r.s.Restore()
	_, e := dir.Add(r.v, 1, ent(9, "a"))
	r.same("Add", e, api.OK)
	r.has(1, append(nths(0, 20), ent(9, "a"))...)
}
