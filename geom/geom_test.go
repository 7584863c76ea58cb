package geom_test

import (
	"math"
	"testing"

	"scupper/api"
	"scupper/geom"
)

// shape is groups, and of each sectors of inodes and of data.
func shape(groups, inodes, data int) api.Geom {
	return api.Geom{Groups: groups, Inodes: inodes, Data: data}
}

// told holds an error's number against the one that is asked for.
func told(t *testing.T, what string, got, want api.Errno) {
	t.Helper()
	if got != want {
		t.Errorf("%s: %d, want %d", what, got, want)
	}
}

// sector holds a sector that is told without an error against the one that is asked for.
func sector(t *testing.T, what string, want int) func(int, api.Errno) {
	return func(got int, e api.Errno) {
		t.Helper()
		if got != want || e != api.OK {
			t.Errorf("%s: %d, error %d, want %d", what, got, e, want)
		}
	}
}

// slot holds where inode ino of g lies against what is asked for.
func slot(t *testing.T, g api.Geom, ino int, want geom.Slot) {
	t.Helper()
	if got, e := geom.Inode(g, ino); got != want || e != api.OK {
		t.Errorf("%v, inode %d: %+v, error %d, want %+v", g, ino, got, e, want)
	}
}

// place holds what lies in a sector of g against what is asked for.
func place(t *testing.T, g api.Geom, at int, want geom.Place) {
	t.Helper()
	if got, e := geom.Where(g, at); got != want || e != api.OK {
		t.Errorf("%v, sector %d: %+v, error %d, want %+v", g, at, got, e, want)
	}
}

// noSector holds that a call tells ErrArg, and 0.
func noSector(t *testing.T, what string, g api.Geom, at ...int) func(int, api.Errno) {
	return func(got int, e api.Errno) {
		t.Helper()
		if got != 0 || e != api.ErrArg {
			t.Errorf("%v, %s %d: %d, error %d, want 0, error 2", g, what, at, got, e)
		}
	}
}

// noSlot holds that there is no inode ino of g.
func noSlot(t *testing.T, g api.Geom, ino int) {
	t.Helper()
	if got, e := geom.Inode(g, ino); got != (geom.Slot{}) || e != api.ErrArg {
		t.Errorf("%v, inode %d: %+v, error %d, want noughts, error 2", g, ino, got, e)
	}
}

// noPlace holds that there is no such sector of g.
func noPlace(t *testing.T, g api.Geom, at int) {
	t.Helper()
	if got, e := geom.Where(g, at); got != (geom.Place{}) || e != api.ErrArg {
		t.Errorf("%v, sector %d: %+v, error %d, want noughts, error 2", g, at, got, e)
	}
}

// laid is what lies on a disk, sector by sector, by laying one behind the other as the chapter tells.
func laid(g api.Geom) []geom.Place {
	l := []geom.Place{{Kind: 1, Index: 0}, {Kind: 1, Index: 1}}
	for group := range g.Groups {
		l = append(l, geom.Place{Kind: 2, Group: group}, geom.Place{Kind: 3, Group: group})
		for i := range g.Inodes {
			l = append(l, geom.Place{Kind: 4, Group: group, Index: i})
		}
		for i := range g.Data {
			l = append(l, geom.Place{Kind: 0, Group: group, Index: i})
		}
	}
	return l
}

// shapes are all that may be.
func shapes() []api.Geom {
	var l []api.Geom
	for groups := 1; groups <= 8; groups++ {
		for inodes := 1; inodes <= 8; inodes++ {
			for data := 4; data <= 128; data++ {
				l = append(l, shape(groups, inodes, data))
			}
		}
	}
	return l
}

// some are shapes that may be: the least, the greatest, and a few between.
func some() []api.Geom {
	return []api.Geom{
		shape(1, 1, 4), shape(8, 8, 128), shape(2, 1, 4), shape(2, 2, 5), shape(1, 8, 128), shape(8, 1, 4),
		shape(3, 5, 17), shape(1, 2, 12), shape(8, 1, 128), shape(8, 8, 4), shape(1, 1, 128), shape(1, 8, 4),
	}
}

// never are shapes that may not be: each number of one that may one below its bounds, one above,
// and far from them; two and three of them wrong; and such as would come round to one that may.
func never() []api.Geom {
	l := []api.Geom{
		{}, shape(0, 0, 4), shape(1, 0, 0), shape(0, 1, 0), shape(1, 1, 0), shape(0, 1, 4), shape(1, 0, 4), shape(1, 1, 3),
		shape(9, 8, 128), shape(8, 9, 128), shape(8, 8, 129), shape(9, 9, 129), shape(0, 9, 3), shape(4, 1, 1), shape(128, 8, 8),
		shape(-1, -1, -4), shape(-1, -1, 4), shape(-1, 1, -4), shape(1, -1, -4), shape(2, 130, -122),
		shape(math.MinInt, math.MinInt, math.MinInt), shape(math.MaxInt, math.MaxInt, math.MaxInt),
	}
	for _, g := range some() {
		for _, n := range []int{math.MinInt, math.MinInt + 1, -1 << 32, -256, -1, 0, 9, 10, 256 + g.Groups, 1<<32 + g.Groups, math.MaxInt} {
			l = append(l, shape(n, g.Inodes, g.Data))
		}
		for _, n := range []int{math.MinInt, math.MinInt + 1, -1 << 32, -256, -1, 0, 9, 10, 256 + g.Inodes, 1<<32 + g.Inodes, math.MaxInt} {
			l = append(l, shape(g.Groups, n, g.Data))
		}
		for _, n := range []int{math.MinInt, math.MinInt + 1, -1 << 32, -256, -4, -1, 0, 1, 2, 3, 129, 130, 256 + g.Data, 1<<32 + g.Data, math.MaxInt} {
			l = append(l, shape(g.Groups, g.Inodes, n))
		}
	}
	return l
}

// outside are numbers that are none of those from first to last.
func outside(first, last int) []int {
	return []int{
		math.MinInt, math.MinInt + 1, math.MinInt + last, -1 << 32, first - last - 1, first - 2, first - 1,
		last + 1, last + 2, 2*last + 2, 256 + last, 2048 + last, 1<<32 + first, math.MaxInt - last, math.MaxInt - 1, math.MaxInt,
	}
}

// 6.1, the chapter's example, and all else of that shape by hand.
func TestTwoGroups(t *testing.T) {
	g := shape(2, 1, 4)
	told(t, "check", geom.Check(g), api.OK)
	if n, m := geom.Total(g), geom.Inodes(g); n != 16 || m != 6 {
		t.Errorf("%d sectors, %d inodes, want 16, 6", n, m)
	}
	sector(t, "head 0", 2)(geom.Head(g, 0))
	sector(t, "maps 0", 3)(geom.Maps(g, 0))
	sector(t, "head 1", 9)(geom.Head(g, 1))
	sector(t, "maps 1", 10)(geom.Maps(g, 1))
	for ino, want := range []geom.Slot{
		{Sector: 4, Slot: 0, Group: 0, Index: 0}, {Sector: 4, Slot: 1, Group: 0, Index: 1}, {Sector: 4, Slot: 2, Group: 0, Index: 2},
		{Sector: 11, Slot: 0, Group: 1, Index: 0}, {Sector: 11, Slot: 1, Group: 1, Index: 1}, {Sector: 11, Slot: 2, Group: 1, Index: 2},
	} {
		slot(t, g, ino+1, want)
	}
	for i := range 4 {
		sector(t, "data of 0", 5+i)(geom.Data(g, 0, i))
		sector(t, "data of 1", 12+i)(geom.Data(g, 1, i))
	}
}

// 6.1: shapes that may be are all those within the bounds, the least and the greatest too.
func TestCheckOfShapesThatMayBe(t *testing.T) {
	for _, g := range shapes() {
		if e := geom.Check(g); e != api.OK {
			t.Errorf("%v: %d, want 0", g, e)
		}
	}
}

// 6.1, wrong inputs: no others may be; they have no sectors and no inodes.
func TestCheckOfShapesThatMayNotBe(t *testing.T) {
	for _, g := range never() {
		if e := geom.Check(g); e != api.ErrArg {
			t.Errorf("%v: %d, want 2", g, e)
		}
		if n, m := geom.Total(g), geom.Inodes(g); n != 0 || m != 0 {
			t.Errorf("%v: %d sectors, %d inodes, want none", g, n, m)
		}
	}
}

// 6.1, an edge: about the bounds a shape may be just if each of its numbers may.
func TestCheckAboutTheBounds(t *testing.T) {
	for groups := -1; groups <= 10; groups++ {
		for inodes := -1; inodes <= 10; inodes++ {
			for data := -1; data <= 131; data++ {
				g, want := shape(groups, inodes, data), api.OK
				if groups < 1 || groups > 8 || inodes < 1 || inodes > 8 || data < 4 || data > 128 {
					want = api.ErrArg
				}
				if e := geom.Check(g); e != want {
					t.Errorf("%v: %d, want %d", g, e, want)
				}
			}
		}
	}
}

// 6.1: how many sectors and inodes there are, by hand.
func TestTotalAndInodesByHand(t *testing.T) {
	for g, want := range map[api.Geom][2]int{
		shape(1, 1, 4): {9, 3}, shape(8, 8, 128): {1106, 192}, shape(2, 2, 5): {20, 12}, shape(1, 2, 12): {18, 6},
		shape(8, 1, 4): {58, 24}, shape(1, 8, 4): {16, 24}, shape(1, 1, 128): {133, 3}, shape(3, 5, 17): {74, 45},
	} {
		if n, m := geom.Total(g), geom.Inodes(g); n != want[0] || m != want[1] {
			t.Errorf("%v: %d sectors, %d inodes, want %v", g, n, m, want)
		}
	}
}

// 6.1: how many there are of all shapes; no disk has more sectors than a disk can have.
func TestTotalAndInodesOfAll(t *testing.T) {
	for _, g := range shapes() {
		sectors, inodes := 2, 0
		for range g.Groups {
			sectors += 2 + g.Inodes + g.Data
			inodes += 3 * g.Inodes
		}
		if n, m := geom.Total(g), geom.Inodes(g); n != sectors || m != inodes || n > api.MaxSectors {
			t.Errorf("%v: %d sectors, %d inodes, want %d, %d", g, n, m, sectors, inodes)
		}
	}
}

// 6.1, edges: the first and the last of all in the least shape and in the greatest, by hand.
func TestLeastAndGreatestShape(t *testing.T) {
	least, greatest := shape(1, 1, 4), shape(8, 8, 128)
	sector(t, "head", 2)(geom.Head(least, 0))
	sector(t, "maps", 3)(geom.Maps(least, 0))
	slot(t, least, 1, geom.Slot{Sector: 4, Slot: 0, Group: 0, Index: 0})
	slot(t, least, 3, geom.Slot{Sector: 4, Slot: 2, Group: 0, Index: 2})
	sector(t, "first data", 5)(geom.Data(least, 0, 0))
	sector(t, "last data", 8)(geom.Data(least, 0, 3))

	sector(t, "first head", 2)(geom.Head(greatest, 0))
	sector(t, "last head", 968)(geom.Head(greatest, 7))
	sector(t, "first maps", 3)(geom.Maps(greatest, 0))
	sector(t, "last maps", 969)(geom.Maps(greatest, 7))
	slot(t, greatest, 1, geom.Slot{Sector: 4, Slot: 0, Group: 0, Index: 0})
	slot(t, greatest, 192, geom.Slot{Sector: 977, Slot: 2, Group: 7, Index: 23})
	sector(t, "first data", 12)(geom.Data(greatest, 0, 0))
	sector(t, "last data of the first group", 139)(geom.Data(greatest, 0, 127))
	sector(t, "first data of the last group", 978)(geom.Data(greatest, 7, 0))
	sector(t, "last data", 1105)(geom.Data(greatest, 7, 127))
}

// 6.1, edges: inodes at the border of two sectors, and of two groups.
func TestInodesAtBorders(t *testing.T) {
	g := shape(3, 2, 6)
	slot(t, g, 3, geom.Slot{Sector: 4, Slot: 2, Group: 0, Index: 2})
	slot(t, g, 4, geom.Slot{Sector: 5, Slot: 0, Group: 0, Index: 3})
	slot(t, g, 6, geom.Slot{Sector: 5, Slot: 2, Group: 0, Index: 5})
	slot(t, g, 7, geom.Slot{Sector: 14, Slot: 0, Group: 1, Index: 0})
	slot(t, g, 9, geom.Slot{Sector: 14, Slot: 2, Group: 1, Index: 2})
	slot(t, g, 10, geom.Slot{Sector: 15, Slot: 0, Group: 1, Index: 3})
	slot(t, g, 12, geom.Slot{Sector: 15, Slot: 2, Group: 1, Index: 5})
	slot(t, g, 13, geom.Slot{Sector: 24, Slot: 0, Group: 2, Index: 0})
	slot(t, g, 18, geom.Slot{Sector: 25, Slot: 2, Group: 2, Index: 5})
}

// 6.1 and 6.2: each sector of all shapes, against a disk that is laid one by one.
func TestAllSectorsOfAllShapes(t *testing.T) {
	for _, g := range shapes() {
		ino := 1
		for at, p := range laid(g) {
			place(t, g, at, p)
			switch p.Kind {
			case api.KindHead:
				sector(t, "head", at)(geom.Head(g, p.Group))
			case api.KindMaps:
				sector(t, "maps", at)(geom.Maps(g, p.Group))
			case api.KindRaw:
				sector(t, "data", at)(geom.Data(g, p.Group, p.Index))
			case api.KindInode:
				for s := range 3 {
					slot(t, g, ino, geom.Slot{Sector: at, Slot: s, Group: p.Group, Index: 3*p.Index + s})
					ino++
				}
			}
		}
		if ino != geom.Inodes(g)+1 {
			t.Errorf("%v: %d inodes, want %d", g, geom.Inodes(g), ino-1)
		}
	}
}

// 6.1, wrong inputs: heads and maps of groups that there are not.
func TestNoGroup(t *testing.T) {
	for _, g := range some() {
		for _, group := range outside(0, g.Groups-1) {
			noSector(t, "head", g, group)(geom.Head(g, group))
			noSector(t, "maps", g, group)(geom.Maps(g, group))
			for _, i := range []int{0, 1, g.Data - 1, g.Data, -1, math.MinInt, math.MaxInt} {
				noSector(t, "data", g, group, i)(geom.Data(g, group, i))
			}
		}
	}
}

// 6.1, wrong inputs: inodes that there are not; there is none with number 0.
func TestNoInode(t *testing.T) {
	for _, g := range some() {
		noSlot(t, g, 0)
		for _, ino := range outside(1, geom.Inodes(g)) {
			noSlot(t, g, ino)
		}
	}
}

// 6.1, wrong inputs: sectors of data that there are not, also where the sector itself would be there.
func TestNoData(t *testing.T) {
	for _, g := range some() {
		for group := range g.Groups {
			for _, i := range outside(0, g.Data-1) {
				noSector(t, "data", g, group, i)(geom.Data(g, group, i))
			}
			for i := -8; i < 0; i++ {
				noSector(t, "data", g, group, i)(geom.Data(g, group, i))
			}
		}
	}
}

// 6.2, the chapter's shape by hand: each kind, its group and its place.
func TestWhereByHand(t *testing.T) {
	for at, want := range []geom.Place{
		{Kind: api.KindSuper, Group: 0, Index: 0}, {Kind: api.KindSuper, Group: 0, Index: 1},
		{Kind: api.KindHead, Group: 0, Index: 0}, {Kind: api.KindMaps, Group: 0, Index: 0},
		{Kind: api.KindInode, Group: 0, Index: 0}, {Kind: api.KindInode, Group: 0, Index: 1},
		{Kind: api.KindRaw, Group: 0, Index: 0}, {Kind: api.KindRaw, Group: 0, Index: 1}, {Kind: api.KindRaw, Group: 0, Index: 2},
		{Kind: api.KindRaw, Group: 0, Index: 3}, {Kind: api.KindRaw, Group: 0, Index: 4},
		{Kind: api.KindHead, Group: 1, Index: 0}, {Kind: api.KindMaps, Group: 1, Index: 0},
		{Kind: api.KindInode, Group: 1, Index: 0}, {Kind: api.KindInode, Group: 1, Index: 1},
		{Kind: api.KindRaw, Group: 1, Index: 0}, {Kind: api.KindRaw, Group: 1, Index: 1}, {Kind: api.KindRaw, Group: 1, Index: 2},
		{Kind: api.KindRaw, Group: 1, Index: 3}, {Kind: api.KindRaw, Group: 1, Index: 4},
	} {
		place(t, shape(2, 2, 5), at, want)
	}
}

// 6.2, edges: the first and the last sectors of the least shape and of the greatest, and those at borders.
func TestWhereAtEdges(t *testing.T) {
	least, greatest := shape(1, 1, 4), shape(8, 8, 128)
	place(t, least, 0, geom.Place{Kind: api.KindSuper, Index: 0})
	place(t, least, 1, geom.Place{Kind: api.KindSuper, Index: 1})
	place(t, least, 2, geom.Place{Kind: api.KindHead})
	place(t, least, 8, geom.Place{Kind: api.KindRaw, Index: 3})
	place(t, greatest, 0, geom.Place{Kind: api.KindSuper, Index: 0})
	place(t, greatest, 1, geom.Place{Kind: api.KindSuper, Index: 1})
	place(t, greatest, 11, geom.Place{Kind: api.KindInode, Index: 7})
	place(t, greatest, 12, geom.Place{Kind: api.KindRaw, Index: 0})
	place(t, greatest, 139, geom.Place{Kind: api.KindRaw, Index: 127})
	place(t, greatest, 140, geom.Place{Kind: api.KindHead, Group: 1})
	place(t, greatest, 967, geom.Place{Kind: api.KindRaw, Group: 6, Index: 127})
	place(t, greatest, 968, geom.Place{Kind: api.KindHead, Group: 7})
	place(t, greatest, 1105, geom.Place{Kind: api.KindRaw, Group: 7, Index: 127})
}

// 6.2, wrong inputs: sectors below and beyond those that there are.
func TestNoPlace(t *testing.T) {
	for _, g := range shapes() {
		noPlace(t, g, -1)
		noPlace(t, g, geom.Total(g))
	}
	for _, g := range some() {
		for _, at := range outside(0, geom.Total(g)-1) {
			noPlace(t, g, at)
		}
	}
}

// 6.1 and 6.2, wrong inputs: of a shape that may not be there is nothing anywhere.
func TestNothingOfNoShape(t *testing.T) {
	for _, g := range never() {
		for _, n := range []int{math.MinInt, -1, 0, 1, 2, 3, 4, 9, 1105, math.MaxInt} {
			noSector(t, "head", g, n)(geom.Head(g, n))
			noSector(t, "maps", g, n)(geom.Maps(g, n))
			noSlot(t, g, n)
			noPlace(t, g, n)
			for _, i := range []int{math.MinInt, -1, 0, 1, 3, 127, math.MaxInt} {
				noSector(t, "data", g, n, i)(geom.Data(g, n, i))
			}
		}
	}
}

// 6.3: what Head, Maps, Inode and Data tell Where tells back; with the first two they are all sectors, each once.
func TestEachSectorOnce(t *testing.T) {
	for _, g := range shapes() {
		seen := make([]int, geom.Total(g))
		back := func(at int, e api.Errno, want geom.Place) {
			t.Helper()
			p, none := geom.Where(g, at)
			if e != api.OK || none != api.OK || p != want {
				t.Fatalf("%v: sector %d, error %d, is told back as %+v, error %d, want %+v", g, at, e, p, none, want)
			}
			seen[at]++
		}
		back(0, api.OK, geom.Place{Kind: api.KindSuper, Index: 0})
		back(1, api.OK, geom.Place{Kind: api.KindSuper, Index: 1})
		for group := range g.Groups {
			at, e := geom.Head(g, group)
			back(at, e, geom.Place{Kind: api.KindHead, Group: group})
			at, e = geom.Maps(g, group)
			back(at, e, geom.Place{Kind: api.KindMaps, Group: group})
			for i := range g.Data {
				at, e = geom.Data(g, group, i)
				back(at, e, geom.Place{Kind: api.KindRaw, Group: group, Index: i})
			}
		}
		for ino := 1; ino <= geom.Inodes(g); ino++ {
			s, e := geom.Inode(g, ino)
			back(s.Sector, e, geom.Place{Kind: api.KindInode, Group: s.Group, Index: s.Index / 3})
			if s.Slot != 0 { // a sector of inodes is counted by its first
				seen[s.Sector]--
			}
		}
		for at, n := range seen {
			if n != 1 {
				t.Fatalf("%v: sector %d lies in %d places", g, at, n)
			}
		}
	}
}

// 6.3: no two inodes lie in one slot, and each slot of a sector of inodes has one.
func TestEachSlotOnce(t *testing.T) {
	for _, g := range shapes() {
		seen := map[[2]int]int{}
		for ino := 1; ino <= geom.Inodes(g); ino++ {
			s, e := geom.Inode(g, ino)
			if was := seen[[2]int{s.Sector, s.Slot}]; was != 0 || e != api.OK || s.Slot < 0 || s.Slot > 2 {
				t.Fatalf("%v: inode %d in %+v, error %d, where %d is", g, ino, s, e, was)
			}
			seen[[2]int{s.Sector, s.Slot}] = ino
		}
		if n := g.Groups * g.Inodes * 3; len(seen) != n {
			t.Fatalf("%v: %d slots, want %d", g, len(seen), n)
		}
	}
}
