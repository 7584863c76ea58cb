package bmap_test

import (
	"fmt"
	"slices"
	"testing"

	"scupper/api"
	"scupper/bmap"
	"scupper/disk"
	"scupper/seal"
)

// dice is numbers that look as if they were drawn, and are the same in each run.
type dice uint64

func (d *dice) below(n int) int {
	*d = *d*6364136223846793005 + 1442695040888963407
	return int(uint64(*d)>>33) % n
}

// block is a block, most of them near where a level ends.
func (d *dice) block() int {
	switch d.below(8) {
	case 0, 1:
		return d.below(5)
	case 2, 3:
		return 2 + d.below(5)
	case 4:
		return 28 + d.below(7)
	case 5:
		return 55 + d.below(8)
	case 6:
		return 757 + d.below(4)
	}
	return d.below(api.MaxBlocks+20) - 10
}

// content is one that may be, but for a few.
func (d *dice) content(last int) bmap.Content {
	c := bmap.Content{Kind: []int{0, 0, 6, 6, 5, 4, 3, 1, 2, -1, 7}[d.below(11)], Child: d.below(40) - 3}
	for range []int{0, 3, 54, 64, 10, 55, 65}[d.below(7)] {
		c.Data = append(c.Data, byte(d.below(256)))
	}
	for range d.below(3) {
		if last > 0 {
			c.Needs = append(c.Needs, 1+d.below(last))
		}
	}
	if d.below(15) == 0 {
		c.Needs = append(c.Needs, []int{0, -1, last + 1, last + 2, last + 9}[d.below(5)])
	}
	return c
}

// The chapter's words once more, on a volume of its own.

// pointer is one of a sector of pointers, and whether that is right.
func (r *rig) pointer(sector, i int) (int, bool) {
	p, e := r.v.Load(sector, api.KindPtrs)
	return int(p[2*i]) + int(p[2*i+1])<<8, e == api.OK
}

// walk goes along a block's way: the sectors that are passed, the block's or 0 last, and whether all on the way are right.
func (r *rig) walk(x api.Inode, k int) ([]int, bool) {
	w := wayOf(k)
	own := append(x.Direct[:], x.Single, x.Double)
	l := []int{int(own[w[0]])}
	for _, i := range w[1:] {
		if l[len(l)-1] == 0 {
			break
		}
		to, right := r.pointer(l[len(l)-1], i)
		if !right {
			return append(l, 0), false
		}
		l = append(l, to)
	}
	return l, true
}

func (r *rig) wantFind(x api.Inode, k int) (int, api.Errno) {
	if k < 0 || k > 759 {
		return 0, api.ErrBig
	}
	l, _ := r.walk(x, k)
	if len(l) < len(wayOf(k)) {
		return 0, api.OK
	}
	return l[len(l)-1], api.OK
}

func (r *rig) wantBlocks(x api.Inode) []bmap.Held {
	var l []bmap.Held
	for k := range api.MaxBlocks {
		if s, _ := r.wantFind(x, k); s != 0 {
			l = append(l, bmap.Held{K: k, Sector: s})
		}
	}
	return l
}

func (r *rig) wantTables(x api.Inode) []int {
	l := []int{int(x.Single), int(x.Double)}
	for i := range 27 {
		if x.Double != 0 {
			to, _ := r.pointer(int(x.Double), i)
			l = append(l, to)
		}
	}
	return slices.DeleteFunc(l, func(n int) bool { return n == 0 })
}

func (r *rig) wantCost(x api.Inode, k int) int {
	if k < 0 || k > 759 {
		return 0
	}
	l, _ := r.walk(x, k)
	n := 1 // the block's own
	for i := 1; i < len(wayOf(k)); i++ {
		if i > len(l) || l[i-1] == 0 {
			n++ // a sector of pointers to which nothing leads
		}
	}
	return n
}

// freeBits is all free sectors of data, from a group on, and round.
func (r *rig) freeBits(from int) []int {
	var l []int
	for ahead := range r.g.Groups {
		group := (from + ahead) % r.g.Groups
		p, e := r.v.Load(mapsAt(r.g, group), api.KindMaps)
		for i := range r.g.Data {
			if e == api.OK && p[i/8]>>(i%8)&1 == 0 {
				l = append(l, dataAt(r.g, group, i))
			}
		}
	}
	return l
}

// lay takes a sector, and gives it its content: the sector, both patches, and whether the content was taken.
func (r *rig) lay(ino int, c bmap.Content) (int, []int, api.Errno) {
	_, _, group := at(r.g, ino)
	sector := r.freeBits(group)[0]
	group = (sector - 2) / (2 + r.g.Inodes + r.g.Data)
	i := sector - dataAt(r.g, group, 0)
	p, _ := r.v.Load(mapsAt(r.g, group), api.KindMaps)
	b, _ := r.v.Patch(api.Patch{At: mapsAt(r.g, group), Off: i / 8, Data: []byte{p[i/8] | 1<<(i%8)}, Kind: 3})
	n := 54
	if c.Kind == 0 {
		n = 64
	}
	d, e := r.v.Patch(api.Patch{At: sector, Data: padded(c.Data, n), Kind: c.Kind, Needs: c.Needs, Owner: ino, Child: c.Child})
	return sector, []int{b, d}, e
}

// put is Put by the words.
func (r *rig) put(ino, k int, c bmap.Content) (int, int, api.Errno) {
	if ino < 1 || ino > 3*r.g.Inodes*r.g.Groups {
		return 0, 0, api.ErrArg
	}
	sector, off, group := at(r.g, ino)
	p, e := r.v.Load(sector, api.KindInode)
	if e != api.OK {
		return 0, 0, api.ErrSeal
	}
	if k < 0 || k > 759 {
		return 0, 0, api.ErrBig
	}
	x := inodeOf(p[off : off+18])
	l, right := r.walk(x, k)
	if l[len(l)-1] != 0 {
		return 0, 0, api.ErrArg
	}
	if c.Kind < 0 || c.Kind > 6 || len(c.Data) > 64 || c.Kind > 0 && len(c.Data) > 54 {
		return 0, 0, api.ErrArg
	}
	if !right {
		return 0, 0, api.ErrSeal
	}
	w := wayOf(k)
	if len(r.freeBits(group)) < len(w)-len(l)+1 {
		return 0, 0, api.ErrSpace
	}
	block, behind, e := r.lay(ino, c)
	if e != api.OK {
		return 0, 0, e
	}
	first := block
	for i := len(w) - 1; i >= len(l); i-- {
		p := table(map[int]int{w[i]: first})
		first, behind, _ = r.lay(ino, bmap.Content{Data: p[:], Kind: api.KindPtrs, Needs: behind, Child: c.Child})
	}
	q := api.Patch{Data: two(first), Needs: behind, Owner: ino, Child: c.Child}
	if len(l) == 1 {
		q.At, q.Off, q.Kind = sector, off+6+2*w[0], api.KindInode
	} else {
		q.At, q.Off, q.Kind = l[len(l)-2], 2*w[len(l)-1], api.KindPtrs
	}
	id, e := r.v.Patch(q)
	return block, id, e
}

// step does one thing to the volume by the calls, and to the model by the words, and tells what both answer.
func step(d *dice, r, m *rig) (string, any, any) {
	list := func(l ...any) []any { return l }
	inos := 3 * r.g.Inodes * r.g.Groups
	ino, k := 1+d.below(inos), d.block()
	x := r.inode(ino)
	m.inode(ino) // as often, so that both caches hold the same
	switch d.below(14) {
	case 0:
		return fmt.Sprint("Find ", ino, k), list(bmap.Find(r.v, x, k)), list(m.wantFind(x, k))
	case 1:
		return fmt.Sprint("Cost ", ino, k), bmap.Cost(r.v, x, k), m.wantCost(x, k)
	case 2:
		return fmt.Sprint("Blocks ", ino), bmap.Blocks(r.v, x), m.wantBlocks(x)
	case 3:
		return fmt.Sprint("Tables ", ino), bmap.Tables(r.v, x), m.wantTables(x)
	case 4:
		if d.below(5) > 0 {
			return "Sync", r.v.Sync(), m.v.Sync()
		}
		p := api.Patch{At: dataAt(r.g, 0, d.below(r.g.Data)), Off: d.below(54), Data: []byte{byte(d.below(30))}, Kind: []int{5, 5, 6, 0}[d.below(4)]}
		return fmt.Sprint("Patch ", p), list(r.v.Patch(p)), list(m.v.Patch(p))
	case 5:
		id := 1 + d.below(r.next())
		return fmt.Sprint("Settle ", id), r.v.Settle(id), m.v.Settle(id)
	case 6:
		ino += d.below(3) * inos
	}
	c := d.content(r.next() - 1)
	return fmt.Sprint("Put ", ino, k, c), list(bmap.Put(r.v, ino, k, c)), list(m.put(ino, k, c))
}

// 20.1, 20.2: long runs on disks of several shapes, with blocks, inodes, contents and needs that there are not, sectors of pointers that are wrong, and until there is no space: each answer, and all that is left, as the chapter's words tell it.
func TestAsTheWords(t *testing.T) {
	for seed := range 48 {
		dice := dice(seed + 1)
		g := []api.Geom{three, one, {Groups: 2, Inodes: 1, Data: 12}, {Groups: 4, Inodes: 2, Data: 4}}[seed%4]
		l := blank(g)
		if seed%3 == 0 {
			setInode(g, l, 2, api.Inode{Single: uint16(dataAt(g, 0, 0)), Double: uint16(dataAt(g, 0, 1))})
			l[dataAt(g, 0, 0)] = wrong()[seed/3%len(wrong())]
			l[dataAt(g, 0, 1)] = sealed(api.KindPtrs, table(map[int]int{0: dataAt(g, 0, 0), 1: dataAt(g, 0, 2), 2: 5}))
			take(g, l, 0, 2)
		}
		size := []int{1, 3, api.MaxCache}[seed/4%3]
		r, m := fresh(t, g, size, l), fresh(t, g, size, l)
		var told []string
		for range 60 {
			what, got, want := step(&dice, r, m)
			told = append(told, what)
			r.same("the answer", got, want)
			r.same("what is left", r.state() == m.state(), true)
			if t.Failed() {
				t.Fatalf("seed %d: %q", seed, told)
			}
		}
	}
}

// spot is a block of an inode.
type spot struct{ ino, k int }

// 20.3: whatever was hung in is found, and has its content, and all other blocks are where they were, of all inodes; so it is when patches settle, in any order.
func TestHungIn(t *testing.T) {
	for seed := range 16 {
		dice := dice(seed + 500)
		g := []api.Geom{three, {Groups: 1, Inodes: 2, Data: 128}, {Groups: 4, Inodes: 1, Data: 31}, great}[seed%4]
		r := fresh(t, g, []int{1, 5, api.MaxCache}[seed%3], blank(g))
		where, what := map[spot]int{}, map[spot][]byte{}
		for range 60 {
			s := spot{1 + dice.below(6), dice.block()}
			c := bmap.Content{Kind: []int{0, 6, 5}[dice.below(3)]}
			for range dice.below(55) {
				c.Data = append(c.Data, byte(dice.below(256)))
			}
			sector, id, e := bmap.Put(r.v, s.ino, s.k, c)
			if e == api.OK {
				where[s], what[s] = sector, padded(c.Data, 54)
				if dice.below(3) == 0 {
					r.same("Settle", r.v.Settle(id), api.OK)
				}
			}
			if dice.below(9) == 0 {
				r.syncs()
			}
			r.hold(where, what)
		}
		if len(where) < 8 || t.Failed() {
			t.Fatalf("seed %d: %d blocks", seed, len(where))
		}
	}
}

// hold holds all blocks of the first six inodes against where they should be, and what they should have.
func (r *rig) hold(where map[spot]int, what map[spot][]byte) {
	r.t.Helper()
	for ino := 1; ino <= 6; ino++ {
		var want []bmap.Held
		for k := range api.MaxBlocks {
			if sector, in := where[spot{ino, k}]; in {
				want = append(want, bmap.Held{K: k, Sector: sector})
			}
		}
		r.blocks(r.inode(ino), want...)
	}
	for s, sector := range where {
		r.finds(r.inode(s.ino), s.k, sector, api.OK)
		b, _ := r.v.Now(sector)
		r.same("its content", b[:54], what[s])
	}
}

// 20.4: what the pointer needs, through others, is the block's content, its bit, and those of all sectors of pointers that were missing.
func TestAhead(t *testing.T) {
	for _, k := range []int{0, 3, 4, 30, 31, 57, 58, 759} {
		for _, needs := range [][]int{nil, {1}} {
			r := fresh(t, three, 9, blank(three))
			r.patch(36, 0, 0, 1)
			sector, id := r.hangs(7, k, bmap.Content{Data: []byte{1}, Needs: needs})
			want := []int{}
			for i := 2 - len(needs); i <= id; i++ {
				want = append(want, i)
			}
			r.same("what is needed", r.v.Needed(id), want)
			r.ahead(id, sector)
			// Another one beside it, which needs nothing of the first but the sectors of pointers to which it is set.
			sector, id = r.hangs(7, (k+1)%760, bmap.Content{Data: []byte{2}})
			r.ahead(id, sector)
		}
	}
}

// ahead holds what a pointer needs against that a content of its block's sector, and a bit, is among it.
func (r *rig) ahead(id, sector int) {
	r.t.Helper()
	contents, bits := 0, 0
	for _, n := range r.v.Needed(id) {
		p, _ := r.v.Graph().Get(n)
		if p.At == sector && len(p.Data) == 64 {
			contents++
		}
		i := sector - 29
		if p.At == 27 && p.Off == i/8 && p.Data[0]>>(i%8)&1 == 1 {
			bits++
		}
	}
	r.same("contents", contents, 1)
	r.same("a bit", bits > 0, true)
}

// 20.4: wherever the power goes while patches settle, and whatever waits on the disk comes about, each pointer that is there leads to a sector that is taken, and has what was put there, and so do those of sectors of pointers.
func TestAheadOfAnyCrash(t *testing.T) {
	for seed := range 5 {
		for units := 0; ; units++ {
			dice := dice(seed*7919 + 3)
			r := fresh(t, three, 2, blank(three))
			what := map[spot]byte{}
			for n := range 11 {
				s := spot{1 + dice.below(9), dice.block()}
				if _, _, e := bmap.Put(r.v, s.ino, s.k, bmap.Content{Data: []byte{byte(n + 1)}}); e == api.OK {
					what[s] = byte(n + 1)
				}
			}
			last := r.next() - 1
			ids := []int{1 + dice.below(last), last, 1 + dice.below(last)}
			r.s.Limit(units)
			e := r.v.Settle(ids...)
			if e == api.OK {
				e = r.v.Sync()
			}
			keep := make([]int, r.d.Len())
			for i := range keep {
				keep[i] = (units + i*seed) % 3
			}
			r.d.Crash(keep)
			r.sound(what)
			if t.Failed() {
				t.Fatalf("seed %d, %d units", seed, units)
			}
			if e == api.OK {
				break
			}
		}
	}
}

// sound follows all pointers of a disk, as it is stable.
func (r *rig) sound(what map[spot]byte) {
	r.t.Helper()
	d, _ := disk.New(r.d.Len(), nil)
	d.Load(r.d.Image())
	all := d.Image()
	taken := func(sector int) bool {
		group, i := (sector-5)/12, (sector-5)%12
		p, _, _ := seal.Get(api.KindMaps, all[mapsAt(three, group)])
		return p[i/8]>>(i%8)&1 == 1
	}
	for ino := 1; ino <= 9; ino++ {
		sector, off, _ := at(three, ino)
		p, _, e := seal.Get(api.KindInode, all[sector])
		r.same("the inode's sector", e, api.OK)
		x := inodeOf(p[off : off+18])
		for k := range api.MaxBlocks {
			w := wayOf(k)
			to := int(append(x.Direct[:], x.Single, x.Double)[w[0]])
			for _, i := range w[1:] {
				if to == 0 {
					break
				}
				p, _, e := seal.Get(api.KindPtrs, all[to])
				r.same("a sector of pointers", fmt.Sprint(e, taken(to)), fmt.Sprint(api.OK, true))
				to = int(p[2*i]) + int(p[2*i+1])<<8
			}
			if to != 0 {
				r.same("a block", fmt.Sprint(all[to], taken(to)), fmt.Sprint(api.Block{what[spot{ino, k}]}, true))
			}
		}
	}
}
