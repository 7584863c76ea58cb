package file_test

import (
	"fmt"
	"math"
	"testing"

	"scupper/api"
)

// watch tells, when it is called, which sectors of data and inodes (-1 less the inode) have been given back since, in order, as the patches of the maps say.
func (r *rig) watch() func() []int {
	first := r.next()
	var was []api.Load
	for group := range r.g.Groups {
		p, _ := r.v.Load(mapsAt(r.g, group), api.KindMaps)
		was = append(was, p)
	}
	return func() []int {
		var l []int
		for _, id := range r.v.Graph().All() {
			p, _ := r.v.Graph().Get(id)
			if id < first || p.Kind != api.KindMaps {
				continue
			}
			group, _ := placeOf(r.g, p.At)
			for i := range 8 {
				if was[group][p.Off]>>i&1 == 1 && p.Data[0]>>i&1 == 0 {
					l = append(l, placeAt(r.g, group, 8*p.Off+i))
				}
			}
			was[group][p.Off] = p.Data[0]
		}
		return l
	}
}

// placeAt is the sector of data, or -1 less the inode, whose bit that is in a group's maps.
func placeAt(g api.Geom, group, bit int) int {
	if bit < 128 {
		return dataAt(g, group, bit)
	}
	return -1 - (1 + group*3*g.Inodes + bit - 128)
}

// stable says of these patches, one behind the other, that they are stable, and lets the volume look at its frees: what is given back then.
func (r *rig) stable(ids ...int) []int {
	r.t.Helper()
	given := r.watch()
	for _, id := range ids {
		r.same("Write", r.v.Write(id), api.OK)
		r.v.SettleAll()
	}
	// Something that has nothing to do with it settles.
	r.settles(r.patch(r.d.Len()-1, 0, 0, 7))
	return given()
}

// tail is the patch of an inode's size, and all behind it.
func tail(g api.Geom, ino int, x api.Inode, needs ...int) api.Patch {
	return set(g, ino, 2, bytesOf(x)[2:], needs...)
}

// noughts is the patch of noughts behind a size.
func noughts(sector, off, ino, t int) api.Patch {
	return raw(sector, off, make([]byte, 64-off), ino, t)
}

// gone is a patch, and the sectors that are free behind it.
type gone struct {
	p    api.Patch
	free []int
}

// cutting is a cut: the file, the size, the inode then, what is free behind its patch, and the other patches.
type cutting struct {
	ks    []int
	size  int
	after func(f *made, x *api.Inode)
	free  func(f *made) []int
	steps func(f *made) []gone
}

// of is the sectors of these blocks.
func (f *made) of(ks ...int) []int {
	var l []int
	for _, k := range ks {
		l = append(l, f.block[k])
	}
	return l
}

// at is the sector of Single (0), Double (1), or one of Double's (from 2 on).
func (f *made) at(tables ...int) []int {
	var l []int
	for _, i := range tables {
		l = append(l, f.tables[i])
	}
	return l
}

// off is the patch of inode 2 by which a pointer goes, which needs patch 1.
func off(table, place int) api.Patch { return leads(table, place, 0, 2, 1) }

// nothing is a cut that leaves the inode's pointers, has nothing free behind its patch, and no other patch.
func nothing() cutting {
	return cutting{after: func(*made, *api.Inode) {}, free: func(*made) []int { return nil }, steps: func(*made) []gone { return nil }}
}

// holds cuts inode 2 of a disk with one group, and holds all patches, and what is free behind each, against what they should be.
func (c cutting) holds(t *testing.T, was int) {
	t.Helper()
	build := func() (*rig, *made) {
		m := blank(one)
		f := m.file(2, was, c.ks...)
		r := fresh(t, 9, m)
		r.cuts(2, c.size, api.OK)
		return r, f
	}
	r, f := build()
	x := f.x
	x.Size = uint32(c.size)
	c.after(f, &x)
	l, frees := []api.Patch{tail(one, 2, x)}, 0
	if len(c.free(f)) > 0 {
		frees++
	}
	for _, s := range c.steps(f) {
		l = append(l, s.p)
		if len(s.free) > 0 {
			frees++
		}
	}
	r.are(1, l...)
	r.pending(len(l), frees)
	r.same("the inode", r.inode(2), x)
	r.same("free, before it settles", r.free(), 40-len(f.block)-f.held())
	r.says(1, true)
	// What is free behind each, the first patch ahead of it.
	r.same("free behind the inode", r.stable(1), c.free(f))
	for i, s := range c.steps(f) {
		r, _ := build()
		r.same(fmt.Sprint("free behind patch ", 2+i), r.stable(1, 2+i), append(c.free(f), s.free...))
	}
	r, _ = build()
	r.syncs()
	r.same("free", r.free(), 40-len(f.block)-f.held()+c.all(f))
}

// all is how many sectors are free behind all patches.
func (c cutting) all(f *made) int {
	n := len(c.free(f))
	for _, s := range c.steps(f) {
		n += len(s.free)
	}
	return n
}

// held is how many sectors of pointers a file has.
func (f *made) held() int {
	n := 0
	for _, sector := range f.tables {
		if sector != 0 {
			n++
		}
	}
	return n
}

// mixed is blocks of each level, not in their order.
var mixed = []int{60, 3, 0, 35, 2, 1, 7, 30, 4, 31, 57, 58, 84, 85, 100}

// without is an inode's pointers from one on set to 0.
func without(x *api.Inode, direct int) {
	for k := direct; k < 4; k++ {
		x.Direct[k] = 0
	}
	x.Single, x.Double = 0, 0
}

// 21.2: to a size within the first four blocks: all goes with the inode's patch; the blocks first, rising, then Single, Double, and those of Double; noughts last, where the last block is there, and something of it is left.
func TestCutToDirect(t *testing.T) {
	for _, size := range []int{0, 1, 63, 64, 65, 100, 127, 128, 129, 192, 193, 255, 256} {
		need := (size + 63) / 64
		c := nothing()
		c.ks, c.size = mixed, size
		c.after = func(_ *made, x *api.Inode) { without(x, need) }
		c.free = func(f *made) []int {
			l := f.of([]int{0, 1, 2, 3}[need:]...)
			l = append(l, f.of(4, 7, 30, 31, 35, 57, 58, 60, 84, 85, 100)...)
			return append(l, f.at(0, 1, 2, 3, 4)...)
		}
		if size%64 != 0 {
			c.steps = func(f *made) []gone { return []gone{{p: noughts(f.block[need-1], size%64, 2, 1)}} }
		}
		c.holds(t, 64*101)
	}
}

// 21.2: the last block is a hole: nothing is laid behind the size; pointers that are 0 have nothing that is free.
func TestCutToAHole(t *testing.T) {
	for _, size := range []int{70, 130, 200, 256} {
		c := nothing()
		c.ks, c.size = []int{0, 3, 40}, size
		c.after = func(f *made, x *api.Inode) { without(x, (size+63)/64) }
		c.free = func(f *made) []int { return append(f.of(3, 40), f.at(1, 2)...) }
		if size > 192 {
			c.free = func(f *made) []int { return append(f.of(40), f.at(1, 2)...) }
		}
		if size == 200 {
			c.steps = func(f *made) []gone { return []gone{{p: noughts(f.block[3], 8, 2, 1)}} }
		}
		c.holds(t, 64*50)
	}
}

// 21.2: to a size behind the first four blocks: Single stays, and of it each pointer goes that is not needed; what is 0 is let be. Double goes with the inode's patch.
func TestCutInSingle(t *testing.T) {
	double := func(f *made) []int { return append(f.of(31, 58, 40), f.at(1, 2, 3)...) }
	for _, size := range []int{257, 300, 320, 321, 64 * 9, 64*9 + 5, 64*10 + 1, 64*30 - 1, 64 * 30, 64*30 + 1, 64 * 31} {
		need := (size + 63) / 64
		c := nothing()
		c.ks, c.size = []int{9, 0, 6, 30, 8, 31, 58, 40}, size
		c.after = func(_ *made, x *api.Inode) { x.Double = 0 }
		c.free = func(f *made) []int {
			l := double(f)
			l[1], l[2] = l[2], l[1] // rising
			return l
		}
		c.steps = func(f *made) []gone {
			var l []gone
			for _, k := range []int{6, 8, 9, 30} {
				if k >= need {
					l = append(l, gone{p: off(f.tables[0], k-4), free: f.of(k)})
				}
			}
			if to := f.block[need-1]; to != 0 && size%64 != 0 {
				l = append(l, gone{p: noughts(to, size%64, 2, 1)})
			}
			return l
		}
		c.holds(t, 64*60)
	}
}

// 21.2: to a size behind the first 31 blocks: Double stays: in the one of its sectors of which some is needed the pointers behind go, one by one, and those behind that with all to which they lead.
func TestCutInDouble(t *testing.T) {
	for _, size := range []int{64*31 + 1, 64 * 32, 64*32 + 1, 64 * 57, 64*58 - 1, 64 * 58, 64*58 + 1, 64 * 59, 64*60 + 9, 64 * 85, 64*85 + 1, 64 * 112, 64*120 + 3} {
		need := (size + 63) / 64
		c := nothing()
		c.ks, c.size = []int{57, 31, 5, 33, 60, 58, 84, 90, 85, 759, 740, 120}, size
		c.steps = func(f *made) []gone {
			var l []gone
			for i := range 27 {
				first := 31 + 27*i
				var in []int
				for k := first; k < first+27; k++ {
					if f.block[k] != 0 {
						in = append(in, k)
					}
				}
				if need <= first && f.tables[2+i] != 0 {
					l = append(l, gone{p: off(f.tables[1], i), free: append(f.of(in...), f.tables[2+i])})
					continue
				}
				for _, k := range in {
					if k >= need {
						l = append(l, gone{p: off(f.tables[2+i], k-first), free: f.of(k)})
					}
				}
			}
			if to := f.block[need-1]; to != 0 && size%64 != 0 {
				l = append(l, gone{p: noughts(to, size%64, 2, 1)})
			}
			return l
		}
		c.holds(t, api.MaxSize)
	}
}

// 21.2: by hand: the borders between the levels, and what is free behind which patch there.
func TestCutAtBorders(t *testing.T) {
	ks := []int{3, 4, 30, 31, 57, 58}
	c := nothing()
	c.ks = ks
	// 31 blocks: all of Single is needed, nothing of Double.
	c.size = 64 * 31
	c.after = func(_ *made, x *api.Inode) { x.Double = 0 }
	c.free = func(f *made) []int { return append(f.of(31, 57, 58), f.at(1, 2, 3)...) }
	c.holds(t, 64*59)
	// 4 blocks: nothing of Single.
	c.size = 256
	c.after = func(_ *made, x *api.Inode) { x.Single, x.Double = 0, 0 }
	c.free = func(f *made) []int { return append(f.of(4, 30, 31, 57, 58), f.at(0, 1, 2, 3)...) }
	c.holds(t, 64*59)
	// One byte more: the first block of Single; and of it noughts behind.
	c = nothing()
	c.ks, c.size = ks, 257
	c.after = func(_ *made, x *api.Inode) { x.Double = 0 }
	c.free = func(f *made) []int { return append(f.of(31, 57, 58), f.at(1, 2, 3)...) }
	c.steps = func(f *made) []gone {
		return []gone{{off(f.tables[0], 26), f.of(30)}, {noughts(f.block[4], 1, 2, 1), nil}}
	}
	c.holds(t, 64*59)
	// One byte behind Single's: the first block of Double; its first sector stays, its second one goes.
	c = nothing()
	c.ks, c.size = ks, 64*31+1
	c.steps = func(f *made) []gone {
		return []gone{{off(f.tables[2], 26), f.of(57)}, {off(f.tables[1], 1), append(f.of(58), f.tables[3])}, {noughts(f.block[31], 1, 2, 1), nil}}
	}
	c.holds(t, 64*59)
	// 58 blocks: all of the first sector is needed, nothing of the second one.
	c.size = 64 * 58
	c.steps = func(f *made) []gone {
		return []gone{{off(f.tables[1], 1), append(f.of(58), f.tables[3])}}
	}
	c.holds(t, 64*59)
	// One byte less than there was: noughts alone.
	c.size = 64*59 - 1
	c.steps = func(f *made) []gone { return []gone{{noughts(f.block[58], 63, 2, 1), nil}} }
	c.holds(t, 64*59)
	// Blocks that lie behind the size from the beginning go, too.
	c.size = 64*31 + 1
	c.steps = func(f *made) []gone {
		return []gone{{off(f.tables[2], 26), f.of(57)}, {off(f.tables[1], 1), append(f.of(58), f.tables[3])}, {noughts(f.block[31], 1, 2, 1), nil}}
	}
	c.holds(t, 64*31+2)
}

// 21.2: an inode without blocks, or with such alone as are needed: the inode's patch alone, and nothing is free.
func TestCutOfHoles(t *testing.T) {
	for _, size := range []int{0, 1, 64, 300, 64 * 40, 48639} {
		c := nothing()
		c.size = size
		c.holds(t, api.MaxSize)
	}
	c := nothing()
	c.ks, c.size = []int{0, 1}, 128
	c.holds(t, 129)
}

// 21.2: the size of a file is not a file's greatest: what comes behind that is cut likewise.
func TestCutOfMoreThanMayBe(t *testing.T) {
	c := nothing()
	c.ks, c.size = []int{759, 0}, api.MaxSize
	c.holds(t, math.MaxUint32)
}

// 21.2: the same size, or a greater one: the size alone is set, by a patch that needs nothing; nothing is free.
func TestCutToTheSameOrMore(t *testing.T) {
	for _, was := range []int{0, 1, 64, 100, 64 * 40} {
		for _, size_ := range []int{was, was + 1, was + 64, 64 * 41, 64*300 + 7, api.MaxSize} {
			m := blank(one)
			f := m.file(2, was, 0, 1, 2, 50)
			r := fresh(t, 9, m)
			r.cuts(2, size_, api.OK)
			r.are(1, size(one, 2, size_))
			r.pending(1, 0)
			f.x.Size = uint32(size_)
			r.same("the inode", r.inode(2), f.x)
			r.reads(2, 0, 192, bytesFrom(0, 192)[:min(192, size_)], api.OK)
			r.says(1, true)
			r.syncs()
			r.same("free", r.free(), 34)
		}
	}
}

// 21.2: sectors of pointers that are not right have no pointers: one that stays is let be, and one that goes is free by itself.
func TestCutNotRight(t *testing.T) {
	for _, b := range wrong() {
		for _, size := range []int{0, 256, 64 * 9, 64 * 31, 64*31 + 9, 64 * 58, 64 * 70, 64 * 90} {
			m := blank(one)
			f := m.file(2, 64*100, 0, 4, 20, 31, 58, 59, 85)
			single, inner := f.tables[0], f.tables[3]
			m.l[single], m.l[inner] = b, b
			r := fresh(t, 9, m)
			r.cuts(2, size, api.OK)
			x := f.x
			x.Size = uint32(size)
			l, frees := []api.Patch{}, [][]int{}
			switch {
			case size == 0:
				without(&x, 0)
				frees = append(frees, append(f.of(0, 31, 85), f.at(0, 1, 2, 3, 4)...))
			case size == 256:
				without(&x, 4)
				frees = append(frees, append(f.of(31, 85), f.at(0, 1, 2, 3, 4)...))
			case size <= 64*31:
				x.Double = 0
				frees = append(frees, append(f.of(31, 85), f.at(1, 2, 3, 4)...))
			case size == 64*31+9, size == 64*58:
				l = append(l, off(f.tables[1], 1), off(f.tables[1], 2))
				frees = append(frees, nil, f.at(3), append(f.of(85), f.tables[4]))
			case size == 64*70:
				l = append(l, off(f.tables[1], 2))
				frees = append(frees, nil, append(f.of(85), f.tables[4]))
			case size == 64*90:
				frees = append(frees, nil)
			}
			if size == 64*31+9 {
				l, frees = append(l, noughts(f.block[31], 9, 2, 1)), append(frees, nil)
			}
			r.are(1, append([]api.Patch{tail(one, 2, x)}, l...)...)
			var all []int
			for i, free := range frees {
				all = append(all, free...)
				r.same("free", r.stable(1+i), free)
			}
			r.syncs()
			r.same("free", r.free(), 40-12+len(all))
		}
	}
}

// 21.2: pointers that lead to what is no sector of data: nothing is free there, and its group is not marked for it.
func TestCutOfWhatIsNoData(t *testing.T) {
	m := blank(three)
	m.set(1, api.Inode{Kind: 1, Size: 256, Direct: [4]uint16{15, 16, 14, 2000}, Single: 38, Double: 1})
	r := fresh(t, 9, m)
	given := r.watch()
	r.cuts(1, 0, api.OK)
	r.are(1, tail(three, 1, api.Inode{}))
	r.says(1, true)
	r.syncs()
	r.same("given back", given(), []int{})
	r.same("free", r.free(), 27)
}

// 21.2: the greatest file: to each number of blocks just what is behind goes, and comes free when all is stable.
func TestCutTheLongest(t *testing.T) {
	m, _ := longest()
	for _, size := range []int{api.MaxSize - 1, 64 * 759, 64*700 + 1, 64 * 86, 64 * 32, 64 * 31, 64 * 5, 256, 1, 0} {
		r := fresh(t, 64, m)
		free := r.free()
		r.cuts(4, size, api.OK)
		r.syncs()
		need := (size + 63) / 64
		tables := 29
		if need <= 31 {
			tables = 1
		} else {
			tables = 2 + (need-31+26)/27
		}
		if need <= 4 {
			tables = 0
		}
		r.same("free", r.free()-free, 760+29-need-tables)
		for off := 0; off < size; off += 4096 {
			r.reads(4, off, 4096, bytesFrom(off, min(4096, size-off)), api.OK)
		}
		r.cuts(4, api.MaxSize, api.OK)
		for off := size; off < api.MaxSize; off += 4096 {
			r.reads(4, off, 4096, make([]byte, min(4096, api.MaxSize-off)), api.OK)
		}
	}
}

// 21.2: sectors of several groups are free, whose groups are marked with the call.
func TestCutOverGroups(t *testing.T) {
	m := blank(three)
	m.fill(1, 27-7)
	f := m.file(4, 64*6, 5, 4, 3, 2, 1, 0)
	r := fresh(t, 9, m)
	r.cuts(4, 70, api.OK)
	x := f.x
	x.Size = 70
	without(&x, 2)
	r.are(1, tail(three, 4, x), noughts(f.block[1], 6, 4, 1))
	r.says(6, true)
	r.same("free behind the inode", r.stable(1), append(f.of(2, 3, 4, 5), f.tables[0]))
	r.same("groups", []int{f.block[5], f.block[4], f.tables[0], f.block[3]}, []int{24, 29, 25, 30})
}

// 21.2, P1: the errors in their order: ErrArg of the inode and the size; ErrBig; ErrSeal; nothing is done with any.
func TestCutErrors(t *testing.T) {
	r := fresh(t, 9, spoilt())
	r.leaves(func() {
		for _, ino := range append(noInodes, 2) {
			for _, size := range []int{math.MinInt, -1, 0, 9, api.MaxSize, api.MaxSize + 1, math.MaxInt} {
				r.cuts(ino, size, api.ErrArg)
			}
		}
		for _, ino := range []int{1, 3, 4, 5, 6} {
			r.cuts(ino, -1, api.ErrArg)
			r.cuts(ino, math.MinInt, api.ErrArg)
			r.cuts(ino, api.MaxSize+1, api.ErrBig)
			r.cuts(ino, math.MaxInt, api.ErrBig)
			r.cuts(ino, 1<<32, api.ErrBig)
		}
		for _, ino := range []int{4, 5, 6} {
			for _, size := range []int{0, 100, api.MaxSize} {
				r.cuts(ino, size, api.ErrSeal)
			}
		}
	})
	r.cuts(1, api.MaxSize, api.OK)
	r.cuts(1, 0, api.OK)
}

// 21.2, P2: what must be changed lies where layer 17 takes no patch: ErrArg, and nothing is done; where it need not be changed the file is cut.
func TestCutWhereNoneMay(t *testing.T) {
	m := blank(three)
	f := m.file(1, 256, 0, 1, 2, 3)
	f.x.Direct[2] = 38
	m.set(1, f.x)
	r := fresh(t, 9, m)
	r.leaves(func() {
		r.cuts(1, 129, api.ErrArg)
		r.cuts(1, 191, api.ErrArg)
	})
	r.cuts(1, 192, api.OK)
	r.cuts(1, 128, api.OK)
	m = blank(three)
	m.l[1] = sealed(api.KindPtrs, table(map[int]int{0: 5, 3: 30}))
	m.set(1, api.Inode{Kind: 1, Size: 64 * 9, Single: 1})
	r = fresh(t, 9, m)
	r.leaves(func() { r.cuts(1, 64*7, api.ErrArg) })
	r.cuts(1, 64*8, api.OK)
	r.same("patches", r.next(), 2)
	r.cuts(1, 64*4, api.OK)
	r.same("patches", r.next(), 3)
}

// 21.2: where no sector of pointers is nothing goes, whatever lies in sector 0.
func TestCutAndSectorNought(t *testing.T) {
	m := blank(three)
	m.l[0] = sealed(api.KindPtrs, table(map[int]int{0: 30, 3: 31, 26: 32}))
	m.set(1, api.Inode{Kind: 1, Size: api.MaxSize})
	for _, size := range []int{0, 256, 300, 64*31 + 9, 64 * 60} {
		r := fresh(t, 9, m)
		r.reads(1, 256, 64, make([]byte, 64), api.OK)
		r.costs(r.inode(1), 256, 1, 2)
		r.cuts(1, size, api.OK)
		r.are(1, tail(three, 1, api.Inode{Size: uint32(size)}))
		r.pending(1, 0)
	}
	r := fresh(t, 9, m)
	r.drops(1, api.OK)
	r.same("free behind it", r.stable(1), []int{})
}
