package file_test

import (
	"math"
	"testing"

	"scupper/api"
)

// 21.2: the inode is set to noughts; behind that, as one, all blocks, rising, then Single, Double, and those of Double, and the inode itself are free.
func TestDrop(t *testing.T) {
	for _, ks := range [][]int{nil, {0}, {3, 1}, {4}, {30, 5, 0}, {31}, {58, 31}, mixed} {
		m := blank(one)
		f := m.file(2, 64*20, ks...)
		p := sealedMaps(m, 0)
		p[16] |= 0b111 // the inodes are taken
		m.l[3] = sealed(api.KindMaps, p)
		r := fresh(t, 9, m)
		r.drops(2, api.OK)
		r.are(1, set(one, 2, 0, make([]byte, 18)))
		r.pending(1, 1)
		r.same("the inode", r.inode(2), api.Inode{})
		r.same("free, before it settles", r.free(), 40-len(ks)-f.held())
		r.says(1, true)
		r.reads(2, 0, 1, nil, api.ErrArg)
		r.writes(2, 0, []byte{1}, api.ErrArg)
		r.cuts(2, 0, api.ErrArg)
		r.drops(2, api.ErrArg)
		var want []int
		for k := range api.MaxBlocks {
			if sector := f.block[k]; sector != 0 {
				want = append(want, sector)
			}
		}
		for _, sector := range f.tables {
			if sector != 0 {
				want = append(want, sector)
			}
		}
		r.same("free behind it", r.stable(1), append(want, -1-2))
		r.syncs()
		r.same("free", r.free(), 40)
	}
}

// sealedMaps is a group's maps.
func sealedMaps(m *image, group int) api.Load {
	b := m.l[mapsAt(m.g, group)]
	return api.Load(b[:54])
}

// 21.2: it needs what is given, as it is given; nothing is free till that is stable.
func TestDropNeeds(t *testing.T) {
	m := blank(three)
	f := m.file(5, 64*20, 0, 1, 9)
	r := fresh(t, 9, m)
	for range 4 {
		r.patch(36, 0, 0, 1)
	}
	r.patch(37, 0, 0, 1)
	r.drops(5, api.OK, 5, 2, 2, 4)
	r.are(6, set(three, 5, 0, make([]byte, 18), 5, 2, 2, 4))
	r.pending(6, 1)
	given := r.watch()
	r.settles(5)
	r.pending(5, 1)
	r.same("nothing is free", given(), []int{})
	r.settles(6)
	r.same("free", given(), append(f.of(0, 1, 9), f.tables[0])) // the inode was not taken in the maps
	r.says(6, true)
	r.syncs()
	r.same("free", r.free(), 27)
}

// 21.2: sectors of several groups are free, and marked with the call; nothing is free of what is no sector of data.
func TestDropOverGroups(t *testing.T) {
	m := blank(three)
	m.fill(1, 27-7)
	f := m.file(4, 64*6, 5, 4, 3, 2, 1, 0)
	r := fresh(t, 9, m)
	r.drops(4, api.OK)
	r.says(6, true)
	r.same("free behind it", r.stable(1), append(f.of(0, 1, 2, 3, 4, 5), f.tables[0]))
	m = blank(three)
	m.set(9, api.Inode{Kind: 1, Size: 256, Direct: [4]uint16{15, 16, 14, 2000}, Single: 38, Double: 1})
	r = fresh(t, 9, m)
	r.drops(9, api.OK)
	r.are(1, set(three, 9, 0, make([]byte, 18)))
	r.says(4, true)
	r.same("nothing is free", r.stable(1), []int{})
	r.pending(1, 0) // of the inode alone, which was not taken
}

// 21.2: sectors of pointers that are not right are free, and what lies behind them is not.
func TestDropNotRight(t *testing.T) {
	for _, b := range wrong() {
		m := blank(one)
		f := m.file(2, 64*100, 0, 4, 20, 31, 58, 59, 85)
		m.l[f.tables[0]], m.l[f.tables[3]] = b, b
		r := fresh(t, 9, m)
		r.drops(2, api.OK)
		r.same("free behind it", r.stable(1), append(f.of(0, 31, 85), f.at(0, 1, 2, 3, 4)...))
	}
}

// 21.2: directories, and inodes of other kinds, are dropped, too; the greatest file is.
func TestDropOthers(t *testing.T) {
	m := blank(three)
	m.set(5, api.Inode{Kind: 2, Links: 1})
	m.set(6, api.Inode{Kind: 9, Links: 1})
	r := fresh(t, 9, m)
	r.drops(5, api.OK)
	r.drops(6, api.OK)
	r.same("inodes", []any{r.inode(4), r.inode(5), r.inode(6)}, []any{api.Inode{Kind: 1}, api.Inode{}, api.Inode{}})
	m, _ = longest()
	r = fresh(t, 64, m)
	r.drops(4, api.OK)
	r.syncs()
	r.same("free", r.free(), 7*128)
}

// 21.2, P1: the errors in their order: ErrArg, of the inode, and of needs that may not be; ErrSeal; nothing is done with any.
func TestDropErrors(t *testing.T) {
	r := fresh(t, 9, spoilt())
	r.patch(36, 0, 0, 1)
	noNeeds := []int{math.MinInt, -1, 0, 2, 3, math.MaxInt}
	r.leaves(func() {
		for _, ino := range append(noInodes, 2) {
			r.drops(ino, api.ErrArg)
			r.drops(ino, api.ErrArg, 1)
			r.drops(ino, api.ErrArg, 2)
		}
		for _, ino := range []int{1, 3, 4, 5, 6} {
			for _, need := range noNeeds {
				r.drops(ino, api.ErrArg, need)
				r.drops(ino, api.ErrArg, 1, need)
				r.drops(ino, api.ErrArg, need, 1)
			}
		}
		for ino := 4; ino <= 6; ino++ {
			r.drops(ino, api.ErrSeal)
			r.drops(ino, api.ErrSeal, 1)
		}
	})
	r.drops(1, api.OK, 1)
	r.drops(3, api.OK)
}

// 21.2: needs that are stable by now may be given, too.
func TestDropNeedsStable(t *testing.T) {
	r := fresh(t, 9, blank(three))
	id := r.patch(36, 0, 0, 1)
	r.syncs()
	r.drops(1, api.OK, id)
	r.are(2, set(three, 1, 0, make([]byte, 18), id))
}

// 21.2, P1: what is handed in is not changed, and nothing of it is kept.
func TestDropKeepsNothing(t *testing.T) {
	r := fresh(t, 9, blank(three))
	r.patch(36, 0, 0, 1)
	r.patch(36, 0, 0, 1)
	needs := []int{2, 1}
	r.drops(1, api.OK, needs...)
	r.same("the needs", needs, []int{2, 1})
	needs[0] = 1
	r.is(3, set(three, 1, 0, make([]byte, 18), 2, 1))
}
