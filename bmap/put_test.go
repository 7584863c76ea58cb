package bmap_test

import (
	"bytes"
	"fmt"
	"math"
	"testing"

	"scupper/alloc"
	"scupper/api"
	"scupper/bmap"
	"scupper/disk"
	"scupper/nvram"
	"scupper/vol"
)

// bit is the patch that takes a sector: a byte of the maps that has then this value.
func bit(g api.Geom, group, off int, x byte) api.Patch {
	return api.Patch{At: mapsAt(g, group), Off: off, Data: []byte{x}, Kind: api.KindMaps}
}

// set is the patch that sets an inode's pointer, which begins at byte from of the inode.
func set(g api.Geom, ino, from, to, child int, needs ...int) api.Patch {
	sector, off, _ := at(g, ino)
	return api.Patch{At: sector, Off: off + from, Data: two(to), Kind: api.KindInode, Needs: needs, Owner: ino, Child: child}
}

// leads is the patch that sets a pointer in a sector of pointers.
func leads(sector, place, to, ino, child int, needs ...int) api.Patch {
	return api.Patch{At: sector, Off: 2 * place, Data: two(to), Kind: api.KindPtrs, Needs: needs, Owner: ino, Child: child}
}

// load is a content of a whole load.
func load(sector, kind int, p []byte, ino, child int, needs ...int) api.Patch {
	n := 54
	if kind == 0 {
		n = 64
	}
	return api.Patch{At: sector, Data: padded(p, n), Kind: kind, Needs: needs, Owner: ino, Child: child}
}

// hop is a content of a sector of pointers that has one pointer.
func hop(sector, place, to, ino, child int, needs ...int) api.Patch {
	p := table(map[int]int{place: to})
	return load(sector, api.KindPtrs, p[:], ino, child, needs...)
}

// 20.2: the chapter's example: block 4 of an inode without blocks costs two, and the sector of pointers is taken behind the block's.
func TestExample(t *testing.T) {
	for _, g := range []api.Geom{three, one, least, great} {
		r := fresh(t, g, 9, blank(g))
		first := dataAt(g, 0, 0)
		r.costs(r.inode(1), 4, 2)
		r.puts(1, 4, bmap.Content{}, first, 5, api.OK)
		r.same("the inode", r.inode(1), api.Inode{Single: uint16(first + 1)})
		r.finds(r.inode(1), 4, first, api.OK)
		r.blocks(r.inode(1), bmap.Held{K: 4, Sector: first})
		r.tables(r.inode(1), first+1)
		free, _ := alloc.Avail(r.v)
		r.same("free", free, g.Groups*g.Data-2)
	}
}

// 20.2: level 0: the sector is taken, has its content, and the inode's pointer to it needs both; each of the four blocks, in their order or not.
func TestDirect(t *testing.T) {
	r := fresh(t, three, 9, blank(three))
	for n, k := range []int{2, 0, 3, 1} {
		id, sector := 3*n+1, 17+n
		c := bmap.Content{Data: []byte{byte(k), 7}, Child: 50 + k}
		r.costs(r.inode(5), k, 1)
		r.puts(5, k, c, sector, id+2, api.OK)
		r.is(id, bit(three, 1, 0, 2<<n-1))
		r.is(id+1, load(sector, 0, c.Data, 5, 50+k))
		r.is(id+2, set(three, 5, 6+2*k, sector, 50+k, id, id+1))
		r.pending(3 * (n + 1))
		r.costs(r.inode(5), k, 1)
	}
	r.same("the inode", r.inode(5), api.Inode{Direct: [4]uint16{18, 20, 17, 19}})
	r.same("the others", []any{r.inode(4), r.inode(6)}, []any{api.Inode{}, api.Inode{}})
	r.says(2, true)
	r.same("writes", r.d.Writes(), 0)
}

// 20.2: level 1: where Single is missing it is hung in ahead of the pointer to it, with a content that has the block's pointer; where it is there the pointer is set in it.
func TestSingle(t *testing.T) {
	r := fresh(t, three, 9, blank(three))
	r.puts(9, 30, bmap.Content{Data: []byte{1, 2, 3}, Kind: api.KindDir, Child: 8}, 29, 5, api.OK)
	r.is(1, bit(three, 2, 0, 1))
	r.is(2, load(29, api.KindDir, []byte{1, 2, 3}, 9, 8))
	r.is(3, bit(three, 2, 0, 3))
	r.is(4, hop(30, 26, 29, 9, 8, 1, 2))
	r.is(5, set(three, 9, 14, 30, 8, 3, 4))
	r.pending(5)
	for n, k := range []int{4, 29, 17} {
		id := 6 + 3*n
		r.costs(r.inode(9), k, 1)
		r.puts(9, k, bmap.Content{Data: []byte{9}, Child: -n}, 31+n, id+2, api.OK)
		r.is(id, bit(three, 2, 0, 4<<(n+1)-1))
		r.is(id+1, load(31+n, 0, []byte{9}, 9, -n))
		r.is(id+2, leads(30, k-4, 31+n, 9, -n, id, id+1))
	}
	r.pending(14)
	r.same("the inode", r.inode(9), api.Inode{Single: 30})
	r.blocks(r.inode(9), bmap.Held{K: 4, Sector: 31}, bmap.Held{K: 17, Sector: 33}, bmap.Held{K: 29, Sector: 32}, bmap.Held{K: 30, Sector: 29})
	r.tables(r.inode(9), 30)
	r.says(4, true)
}

// 20.2: level 2: two sectors of pointers missing, one, and none.
func TestDouble(t *testing.T) {
	r := fresh(t, one, 9, blank(one))
	r.costs(r.inode(3), 31+27*2+5, 3)
	r.puts(3, 31+27*2+5, bmap.Content{Data: []byte{4}, Child: 3}, 5, 7, api.OK)
	r.is(1, bit(one, 0, 0, 1))
	r.is(2, load(5, 0, []byte{4}, 3, 3))
	r.is(3, bit(one, 0, 0, 3))
	r.is(4, hop(6, 5, 5, 3, 3, 1, 2))
	r.is(5, bit(one, 0, 0, 7))
	r.is(6, hop(7, 2, 6, 3, 3, 3, 4))
	r.is(7, set(one, 3, 16, 7, 3, 5, 6))
	r.pending(7)
	r.costs(r.inode(3), 759, 2)
	r.puts(3, 759, bmap.Content{Kind: api.KindHead, Data: []byte{5, 5}}, 8, 12, api.OK)
	r.is(8, bit(one, 0, 0, 15))
	r.is(9, load(8, api.KindHead, []byte{5, 5}, 3, 0))
	r.is(10, bit(one, 0, 0, 31))
	r.is(11, hop(9, 26, 8, 3, 0, 8, 9))
	r.is(12, leads(7, 26, 9, 3, 0, 10, 11))
	r.pending(12)
	r.costs(r.inode(3), 758, 1)
	r.puts(3, 758, bmap.Content{Child: 1}, 10, 15, api.OK)
	r.is(13, bit(one, 0, 0, 63))
	r.is(14, load(10, 0, nil, 3, 1))
	r.is(15, leads(9, 25, 10, 3, 1, 13, 14))
	r.pending(15)
	r.same("the inode", r.inode(3), api.Inode{Double: 7})
	r.blocks(r.inode(3), bmap.Held{K: 90, Sector: 5}, bmap.Held{K: 758, Sector: 10}, bmap.Held{K: 759, Sector: 8})
	r.tables(r.inode(3), 7, 6, 9)
}

// 20.2: each block of a file, hung in one by one, from the front and from the end, is found there; Cost tells what it takes.
func TestEachBlock(t *testing.T) {
	g := api.Geom{Groups: 7, Inodes: 1, Data: 128}
	for seed, block := range []func(n int) int{
		func(n int) int { return n },
		func(n int) int { return 759 - n },
		func(n int) int { return n * 307 % 760 },
	} {
		r := fresh(t, g, 64, blank(g))
		where := map[int]int{}
		free, _ := alloc.Avail(r.v)
		for n := range api.MaxBlocks {
			k := block(n)
			cost := bmap.Cost(r.v, r.inode(7), k)
			where[k], _ = r.hangs(7, k, bmap.Content{Data: two(k)})
			left, _ := alloc.Avail(r.v)
			r.same("what was taken", free-left, cost)
			free = left
			r.finds(r.inode(7), k, where[k], api.OK)
			if n%50 == 7 {
				r.syncs()
			}
		}
		r.same("free", free, 7*128-760-29)
		var want []bmap.Held
		for k := range api.MaxBlocks {
			want = append(want, bmap.Held{K: k, Sector: where[k]})
		}
		r.blocks(r.inode(7), want...)
		r.same("tables", len(bmap.Tables(r.v, r.inode(7))), 29)
		if t.Failed() {
			t.Fatalf("order %d", seed)
		}
	}
}

// 20.2: contents of each kind, of no bytes, of one, of as many as they may have, and of one fewer: the patch is of the whole sector.
func TestContents(t *testing.T) {
	for kind := range 7 {
		most := 54
		if kind == 0 {
			most = 64
		}
		for _, n := range []int{0, 1, 13, most - 1, most} {
			for _, k := range []int{1, 9, 400} {
				r := fresh(t, three, 9, blank(three))
				data := bytes.Repeat([]byte{200}, n)
				sector, _ := r.hangs(4, k, bmap.Content{Data: data, Kind: kind, Child: 4})
				r.same("the sector", sector, 17)
				r.is(2, load(17, kind, data, 4, 4))
				b, _ := r.v.Now(17)
				r.same("the sector now", b[:most], padded(data, most))
				if kind != 0 {
					_, e := r.v.Load(17, kind)
					r.same("its kind", e, api.OK)
				}
			}
		}
	}
}

// 20.2: what the sector had is gone: also bytes behind those that are given.
func TestNoughtsBehind(t *testing.T) {
	l := blank(three)
	for i := range 9 {
		l[5+i] = sealed(api.KindDir, api.Load(bytes.Repeat([]byte{77}, 54)))
	}
	r := fresh(t, three, 9, l)
	r.hangs(1, 0, bmap.Content{Data: []byte{1}})
	r.hangs(1, 1, bmap.Content{Data: []byte{2}, Kind: api.KindDir})
	r.hangs(1, 31, bmap.Content{})
	for range 2 {
		b, _ := r.v.Now(5)
		r.same("raw", b, api.Block{1})
		p, _ := r.v.Load(6, api.KindDir)
		r.same("of a kind", p, api.Load{2})
		b, _ = r.v.Now(7)
		r.same("raw", b, api.Block{})
		p, _ = r.v.Load(8, api.KindPtrs)
		r.same("pointers", p, table(map[int]int{0: 7}))
		p, _ = r.v.Load(9, api.KindPtrs)
		r.same("pointers", p, table(map[int]int{0: 8}))
		r.syncs()
	}
}

// 20.2: the content's needs are what is given, as many as there are, in their order; no other patch has them.
func TestNeeds(t *testing.T) {
	r := fresh(t, one, 9, blank(one))
	for k := range 3 {
		r.patch(30+k, 0, 0, 1)
	}
	r.same("Settle", r.v.Settle(2), api.OK)
	id := 4
	for n, needs := range [][]int{{}, {1}, {2}, {3, 1}, {1, 2, 3}, {3, 3}, nil} {
		k := []int{0, 4, 5, 31, 32, 31 + 27, 3}[n]
		cost := bmap.Cost(r.v, r.inode(1), k)
		_, last := r.hangs(1, k, bmap.Content{Needs: needs})
		r.same("how many patches", last-id, 2*cost)
		p, _ := r.v.Graph().Get(id)
		r.same("the bit's needs", p.Needs, []int{})
		p, _ = r.v.Graph().Get(id + 1)
		r.same("the content's needs", p.Needs, needs)
		for i := id + 3; i < last; i += 2 {
			p, _ := r.v.Graph().Get(i)
			r.same("a table's needs", p.Needs, []int{i - 3, i - 2})
		}
		p, _ = r.v.Graph().Get(last)
		r.same("the pointer's needs", p.Needs, []int{last - 2, last - 1})
		id = last + 1
	}
}

// 20.2: the patch that takes the sector is given when the content comes, so that this may need it; the content itself is not.
func TestNeedsItsOwn(t *testing.T) {
	r := fresh(t, three, 9, blank(three))
	r.patch(29, 0, 0, 1)
	r.puts(4, 5, bmap.Content{Needs: []int{2}}, 17, 6, api.OK)
	r.is(3, load(17, 0, nil, 4, 0, 2))
	r.puts(4, 6, bmap.Content{Needs: []int{8}}, 0, 0, api.ErrArg)
	r.is(7, bit(three, 1, 0, 7))
	r.pending(7)
	r.puts(4, 6, bmap.Content{Needs: []int{8, 7, 8}}, 20, 10, api.OK)
	r.is(9, load(20, 0, nil, 4, 0, 8, 7, 8))
}

// 20.2: needs that may not be: the sector is taken, and that is all, whatever is missing beside the block; the next one is another.
func TestNeedsThatMayNotBe(t *testing.T) {
	for _, k := range []int{0, 3, 4, 30, 31, 759} {
		for _, needs := range [][]int{{0}, {-1}, {4}, {1000}, {math.MaxInt}, {math.MinInt}, {1, 4}, {4, 1}, {1, 2, 0}} {
			r := fresh(t, three, 9, blank(three))
			r.patch(29, 0, 0, 1)
			r.patch(30, 0, 0, 1)
			r.says(4, true)
			used := r.s.Used()
			r.puts(6, k, bmap.Content{Needs: needs, Child: 9}, 0, 0, api.ErrArg)
			r.is(3, bit(three, 1, 0, 1))
			r.pending(3)
			r.same("power", r.s.Used()-used, 3)
			r.says(6, true)
			r.same("the inode", r.inode(6), api.Inode{})
			r.same("the sector", alloc.Free(r.v, api.KindRaw, 1, 0), false)
			r.puts(6, k, bmap.Content{Needs: []int{3}}, 18, 4+2*len(wayOf(k)), api.OK)
		}
	}
}

// 20.2: needs that may not be, where the sector lies in another group than the inode: that group alone is marked.
func TestNeedsThatMayNotBeElsewhere(t *testing.T) {
	l := blank(three)
	take(three, l, 1, 9)
	for _, k := range []int{0, 5, 100} {
		r := fresh(t, three, 9, l)
		r.puts(4, k, bmap.Content{Needs: []int{2}}, 0, 0, api.ErrArg)
		r.says(4, true)
		r.is(1, bit(three, 2, 0, 1))
		r.pending(1)
	}
}

// 20.2: lists that are handed in are not changed, and not kept.
func TestHandedIn(t *testing.T) {
	r := fresh(t, three, 9, blank(three))
	r.patch(29, 0, 0, 1)
	r.patch(30, 0, 0, 1)
	data, needs := []byte{1, 2, 3, 4}, []int{1, 2, 77}
	r.hangs(4, 40, bmap.Content{Data: data[:2], Needs: needs[:1]})
	r.hangs(4, 0, bmap.Content{Data: data[:2:2], Kind: api.KindDir, Needs: needs[:2:2]})
	r.same("what was handed in", fmt.Sprint(data, needs), "[1 2 3 4] [1 2 77]")
	data[0], needs[0] = 9, 2
	r.is(4, load(17, 0, []byte{1, 2}, 4, 0, 1))
	r.is(11, load(20, api.KindDir, []byte{1, 2}, 4, 0, 1, 2))
}

// 20.2: sectors are taken from the inode's group on, and behind the last group from group 0 on; each group is marked, by three units.
func TestFromItsGroup(t *testing.T) {
	for ino := 1; ino <= 9; ino++ {
		group := (ino - 1) / 3
		r := fresh(t, three, 9, blank(three))
		used := r.s.Used()
		var want []int
		for ahead := range 3 {
			for i := range 9 {
				want = append(want, dataAt(three, (group+ahead)%3, i))
			}
		}
		// 25 blocks, and the sector of pointers that is taken behind the fifth; one sector is left.
		for k := range 25 {
			sector, _ := r.hangs(ino, k, bmap.Content{})
			n := k
			if k > 4 {
				n++
			}
			r.same("the sector", sector, want[n])
			groups := uint32(1 << group)
			if n+1 > 9 {
				groups |= 1 << ((group + 1) % 3)
			}
			if n+1 > 18 {
				groups |= 1 << ((group + 2) % 3)
			}
			r.says(groups, true)
		}
		r.same("power", r.s.Used()-used, 9)
		r.tables(r.inode(ino), want[5])
		r.puts(ino, 25, bmap.Content{}, want[26], 80, api.OK)
		r.puts(ino, 26, bmap.Content{}, 0, 0, api.ErrSpace)
	}
}

// 20.2: what is missing may come from one group, and from two and three.
func TestFromSeveralGroups(t *testing.T) {
	for _, left := range [][3]int{{2, 1, 9}, {1, 2, 9}, {1, 1, 9}, {1, 1, 1}, {0, 1, 2}, {0, 0, 3}, {2, 0, 1}, {3, 0, 0}, {0, 3, 0}} {
		l := blank(three)
		var want []int
		for group, n := range left {
			take(three, l, group, 9-n)
			for i := range n {
				want = append(want, dataAt(three, group, 9-n+i))
			}
		}
		r := fresh(t, three, 9, l)
		used := r.s.Used()
		r.costs(r.inode(2), 31, 3)
		r.puts(2, 31, bmap.Content{Data: []byte{6}}, want[0], 7, api.OK)
		r.tables(r.inode(2), want[2], want[1])
		groups := uint32(1)
		for _, sector := range want[:3] {
			groups |= 1 << ((sector - 5) / 12)
		}
		r.says(groups, true)
		marked := 0
		for g := range 3 {
			marked += int(groups >> g & 1)
		}
		r.same("power", r.s.Used()-used, 3*marked)
	}
}

// 20.2: fewer are free than are taken: none is, and nothing is changed; with one more it is hung in, and none is left.
func TestSpace(t *testing.T) {
	for _, k := range []int{0, 3, 4, 30, 31, 759} {
		cost := len(wayOf(k))
		for _, g := range []api.Geom{three, least, one} {
			for left := range cost + 1 {
				l := blank(g)
				for group := range g.Groups {
					n := g.Data
					if group == g.Groups-1 {
						n -= left
					}
					take(g, l, group, n)
				}
				r := fresh(t, g, 9, l)
				r.patch(r.d.Len()-1, 0, 0, 1)
				r.costs(r.inode(1), k, cost)
				if left == cost {
					r.puts(1, k, bmap.Content{}, dataAt(g, g.Groups-1, g.Data-left), 2+2*cost, api.OK)
					free, _ := alloc.Avail(r.v)
					r.same("free", free, 0)
					continue
				}
				r.leaves(func() {
					r.puts(1, k, bmap.Content{}, 0, 0, api.ErrSpace)
					r.puts(1, k, bmap.Content{Needs: []int{7}}, 0, 0, api.ErrSpace)
					r.puts(1, k, bmap.Content{Data: make([]byte, 65)}, 0, 0, api.ErrArg)
				})
				free, _ := alloc.Avail(r.v)
				r.same("free", free, left)
			}
		}
	}
}

// 20.2: where a sector of pointers is there fewer sectors are needed.
func TestSpaceWithTables(t *testing.T) {
	l := blank(one)
	setInode(one, l, 1, api.Inode{Single: 5, Double: 6})
	l[5] = sealed(api.KindPtrs, api.Load{})
	l[6] = sealed(api.KindPtrs, table(map[int]int{3: 7}))
	l[7] = sealed(api.KindPtrs, api.Load{})
	for _, c := range [][2]int{{0, 1}, {4, 1}, {30, 1}, {31 + 3*27, 1}, {31 + 4*27 - 1, 1}, {31, 2}, {31 + 4*27, 2}, {759, 2}} {
		l := append([]api.Block{}, l...)
		take(one, l, 0, 40-c[1])
		r := fresh(t, one, 9, l)
		r.costs(r.inode(1), c[0], c[1])
		r.puts(1, c[0], bmap.Content{}, 45-c[1], 1+2*c[1], api.OK)
		take(one, l, 0, 41-c[1])
		r = fresh(t, one, 9, l)
		r.leaves(func() { r.puts(1, c[0], bmap.Content{}, 0, 0, api.ErrSpace) })
	}
}

// 20.2: where maps are not right nothing is free: other groups' sectors are taken, or none.
func TestMapsNotRight(t *testing.T) {
	l := blank(three)
	l[mapsAt(three, 0)][3] ^= 1
	r := fresh(t, three, 9, l)
	r.puts(1, 4, bmap.Content{}, 17, 5, api.OK)
	r.tables(r.inode(1), 18)
	r.says(3, true)
	for group := range 3 {
		l[mapsAt(three, group)] = api.Block{}
	}
	r = fresh(t, three, 9, l)
	r.leaves(func() { r.puts(1, 0, bmap.Content{}, 0, 0, api.ErrSpace) })
}

// spoilt is a disk of one group: inode 1's block 1 is there; of Single block 5, of Double block 32; Single's second block's place is behind sectors that are right. Inode 2's Single, inode 3's Double is not right; inode 3's direct block 0 is there.
func spoilt() []api.Block {
	l := blank(one)
	setInode(one, l, 1, api.Inode{Direct: [4]uint16{0, 9}, Single: 5, Double: 6})
	setInode(one, l, 2, api.Inode{Single: 8, Double: 6})
	setInode(one, l, 3, api.Inode{Direct: [4]uint16{9}, Single: 5, Double: 8})
	l[5] = sealed(api.KindPtrs, table(map[int]int{1: 9}))
	l[6] = sealed(api.KindPtrs, table(map[int]int{0: 7, 1: 8, 2: 99}))
	l[7] = sealed(api.KindPtrs, table(map[int]int{1: 9}))
	l[8] = sealed(api.KindDir, table(map[int]int{1: 9}))
	take(one, l, 0, 5)
	return l
}

// bad is contents that may not be.
var bad = []bmap.Content{
	{Kind: -1}, {Kind: 7}, {Kind: math.MinInt}, {Kind: math.MaxInt}, {Kind: 256},
	{Data: make([]byte, 65)}, {Data: make([]byte, 4096)},
	{Data: make([]byte, 55), Kind: 1}, {Data: make([]byte, 55), Kind: 5}, {Data: make([]byte, 64), Kind: 6},
	{Data: make([]byte, 55), Kind: 2}, {Data: make([]byte, 55), Kind: 3}, {Data: make([]byte, 55), Kind: 4},
	{Data: make([]byte, 1), Kind: 7}, {Data: make([]byte, 65), Kind: -1, Needs: []int{0}},
}

// 20.2, P2: each error alone, with nothing changed.
func TestErrors(t *testing.T) {
	r := fresh(t, one, 9, spoilt())
	r.patch(30, 0, 0, 1)
	r.leaves(func() {
		for _, ino := range noInodes {
			if ino > 0 && ino <= 3 {
				continue
			}
			r.puts(ino, 0, bmap.Content{}, 0, 0, api.ErrArg)
		}
		r.puts(4, 0, bmap.Content{}, 0, 0, api.ErrArg)
		for _, k := range noBlocks {
			r.puts(1, k, bmap.Content{}, 0, 0, api.ErrBig)
		}
		for _, k := range []int{1, 5, 32} {
			r.puts(1, k, bmap.Content{}, 0, 0, api.ErrArg)
		}
		for _, k := range []int{0, 4, 31} {
			for _, c := range bad {
				r.puts(1, k, c, 0, 0, api.ErrArg)
			}
		}
		for _, at := range [][2]int{{2, 4}, {2, 30}, {2, 5}, {3, 31}, {3, 759}, {3, 32}, {1, 31 + 27}, {1, 31 + 53}, {1, 31 + 54}} {
			r.puts(at[0], at[1], bmap.Content{}, 0, 0, api.ErrSeal)
		}
	})
	r.puts(2, 0, bmap.Content{}, 10, 4, api.OK)
	r.puts(3, 6, bmap.Content{}, 11, 7, api.OK)
	r.puts(1, 33, bmap.Content{}, 12, 10, api.OK)
}

// 20.2: which error is told, where several apply: of the inode, its sector, the block's number, the block, the content, a sector of pointers, and space.
func TestWhichError(t *testing.T) {
	l := spoilt()
	take(one, l, 0, 40)
	r := fresh(t, one, 9, l)
	r.leaves(func() {
		for _, c := range append(bad, bmap.Content{}, bmap.Content{Needs: []int{0}}) {
			for _, k := range append(noBlocks, 0, 1, 5, 759) {
				r.puts(0, k, c, 0, 0, api.ErrArg)
				r.puts(4, k, c, 0, 0, api.ErrArg)
			}
			for _, k := range noBlocks {
				for ino := 1; ino <= 3; ino++ {
					r.puts(ino, k, c, 0, 0, api.ErrBig)
				}
			}
			r.puts(1, 1, c, 0, 0, api.ErrArg)
			r.puts(1, 5, c, 0, 0, api.ErrArg)
			r.puts(1, 32, c, 0, 0, api.ErrArg)
		}
		for _, c := range bad {
			r.puts(2, 5, c, 0, 0, api.ErrArg)
			r.puts(3, 31, c, 0, 0, api.ErrArg)
			r.puts(1, 0, c, 0, 0, api.ErrArg)
		}
		r.puts(2, 5, bmap.Content{}, 0, 0, api.ErrSeal)
		r.puts(3, 31, bmap.Content{Needs: []int{5}}, 0, 0, api.ErrSeal)
		r.puts(1, 58, bmap.Content{}, 0, 0, api.ErrSeal)
		r.puts(1, 0, bmap.Content{}, 0, 0, api.ErrSpace)
		r.puts(1, 0, bmap.Content{Needs: []int{5}}, 0, 0, api.ErrSpace)
	})
	l[4] = api.Block{}
	r = fresh(t, one, 9, l)
	r.leaves(func() {
		for _, c := range append(bad, bmap.Content{}, bmap.Content{Needs: []int{0}}) {
			for _, k := range append(noBlocks, 0, 1, 5, 759) {
				r.puts(0, k, c, 0, 0, api.ErrArg)
				r.puts(4, k, c, 0, 0, api.ErrArg)
				r.puts(1, k, c, 0, 0, api.ErrSeal)
			}
		}
	})
}

// 20.2: an inode's sector, and a sector of pointers, of every sort that is not right, now, and such as there are not.
func TestSeal(t *testing.T) {
	for n, b := range wrong() {
		l := blank(one)
		l[5], l[6] = sealed(api.KindPtrs, table(map[int]int{0: 7})), sealed(api.KindPtrs, table(map[int]int{0: 7}))
		l[7] = b
		setInode(one, l, 1, api.Inode{Single: 7, Double: 6})
		setInode(one, l, 2, api.Inode{Single: 5, Double: 7})
		take(one, l, 0, 3)
		r := fresh(t, one, 9, l)
		r.leaves(func() {
			r.puts(1, 4, bmap.Content{}, 0, 0, api.ErrSeal)
			r.puts(1, 31, bmap.Content{}, 0, 0, api.ErrSeal)
			r.puts(2, 759, bmap.Content{}, 0, 0, api.ErrSeal)
		})
		r.puts(2, 5, bmap.Content{}, 8, 3, api.OK)
		r.puts(1, 31+27, bmap.Content{}, 9, 8, api.OK)
		if b[54] != api.KindInode || b[55] != 251 {
			l[4] = b
			r = fresh(t, one, 9, l)
			r.leaves(func() { r.puts(1, 0, bmap.Content{}, 0, 0, api.ErrSeal) })
		}
		if t.Failed() {
			t.Fatalf("wrong in way %d", n)
		}
	}
	for _, none := range []uint16{1, 2, 3, 4, 45, 46, 2048, 65535} {
		l := blank(one)
		setInode(one, l, 1, api.Inode{Single: none, Double: none})
		r := fresh(t, one, 9, l)
		r.leaves(func() {
			r.puts(1, 4, bmap.Content{}, 0, 0, api.ErrSeal)
			r.puts(1, 31, bmap.Content{}, 0, 0, api.ErrSeal)
		})
		r.puts(1, 0, bmap.Content{}, 5, 3, api.OK)
	}
}

// 20.2: whether the inode's sector is right is asked of what it is now.
func TestSealNow(t *testing.T) {
	l := blank(one)
	l[4] = api.Block{3}
	r := fresh(t, one, 9, l)
	r.leaves(func() { r.puts(1, 0, bmap.Content{}, 0, 0, api.ErrSeal) })
	r.patch(4, 0, api.KindInode, 1)
	r.puts(1, 0, bmap.Content{}, 5, 4, api.OK)
	r.patch(4, 60, 0, 1)
	r.leaves(func() { r.puts(1, 1, bmap.Content{}, 0, 0, api.ErrSeal) })
}

// 20.2, P2: a sector of pointers in sector 1: no patch can be of that one, so that nothing is hung in there; behind sectors to which it leads there is.
func TestTableInSectorOne(t *testing.T) {
	l := blank(one)
	l[1] = sealed(api.KindPtrs, table(map[int]int{2: 10}))
	l[10] = sealed(api.KindPtrs, api.Load{})
	setInode(one, l, 1, api.Inode{Single: 1, Double: 1})
	take(one, l, 0, 6)
	r := fresh(t, one, 9, l)
	r.leaves(func() {
		r.puts(1, 4, bmap.Content{}, 0, 0, api.ErrArg)
		r.puts(1, 31, bmap.Content{}, 0, 0, api.ErrArg)
		r.puts(1, 6, bmap.Content{}, 0, 0, api.ErrArg)
	})
	r.puts(1, 31+54, bmap.Content{}, 11, 3, api.OK)
	r.is(3, leads(10, 0, 11, 1, 0, 1, 2))
}

// 20.2: a sector of pointers may lie anywhere behind those of the shape.
func TestTableAnywhere(t *testing.T) {
	l := blank(three)
	l[2], l[28] = sealed(api.KindPtrs, api.Load{}), sealed(api.KindPtrs, api.Load{})
	setInode(three, l, 4, api.Inode{Single: 2, Double: 28})
	r := fresh(t, three, 9, l)
	r.puts(4, 7, bmap.Content{}, 17, 3, api.OK)
	r.says(3, true)
	r.is(3, leads(2, 3, 17, 4, 0, 1, 2))
	r.puts(4, 32, bmap.Content{}, 18, 8, api.OK)
	r.says(7, true)
	r.is(8, leads(28, 0, 19, 4, 0, 6, 7))
}

// 20.2: other inodes' blocks are not this one's: the same block of each inode is hung in beside the others.
func TestOtherInodes(t *testing.T) {
	r := fresh(t, great, 9, blank(great))
	var inos []int
	for ino := 1; ino <= 192; ino += 13 {
		inos = append(inos, ino)
	}
	where := map[int]map[int]int{}
	for _, ino := range inos {
		where[ino] = map[int]int{}
	}
	for _, k := range []int{3, 0, 4, 5, 31, 70} {
		for _, ino := range inos {
			where[ino][k], _ = r.hangs(ino, k, bmap.Content{Data: []byte{byte(ino), byte(k)}})
		}
	}
	for range 2 {
		for _, ino := range inos {
			var want []bmap.Held
			for _, k := range []int{0, 3, 4, 5, 31, 70} {
				want = append(want, bmap.Held{K: k, Sector: where[ino][k]})
				b, _ := r.v.Now(where[ino][k])
				r.same("its content", b, api.Block{byte(ino), byte(k)})
			}
			r.blocks(r.inode(ino), want...)
		}
		r.syncs()
	}
}

// 20.2: what is hung in may be settled by the last pointer's patch alone; then it is on the disk, and found by a volume that is made of it anew.
func TestSettled(t *testing.T) {
	for _, size := range []int{1, 2, 64} {
		for _, k := range []int{0, 4, 31, 759} {
			r := fresh(t, three, size, blank(three))
			sector, last := r.hangs(8, k, bmap.Content{Data: []byte{3, 1, 4}})
			r.same("Settle", r.v.Settle(last), api.OK)
			r.pending(0)
			d, _ := disk.New(r.d.Len(), nil)
			d.Load(r.d.Image())
			r.v, _ = vol.New(d, nvram.New(nil), size)
			r.finds(r.inode(8), k, sector, api.OK)
			b, _ := r.v.Now(sector)
			r.same("its content", b, api.Block{3, 1, 4})
			free, _ := alloc.Avail(r.v)
			r.same("free", free, 27-len(wayOf(k)))
		}
	}
}
