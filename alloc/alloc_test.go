package alloc_test

import (
	"fmt"
	"math"
	"testing"

	"scupper/alloc"
	"scupper/api"
	"scupper/disk"
	"scupper/maps"
	"scupper/nvram"
	"scupper/power"
	"scupper/seal"
	"scupper/super"
	"scupper/vol"
)

// The disk of most tests: three groups of a sector of inodes and six of data, 29 sectors in all.
// Group 0: maps 3, data 5 to 10, inodes 1 to 3. Group 1: maps 12, data 14 to 19, inodes 4 to 6. Group 2: maps 21, data 23 to 28, inodes 7 to 9.
var three = api.Geom{Groups: 3, Inodes: 1, Data: 6}

// noGroups is groups that there are not on such a disk.
var noGroups = []int{math.MinInt, -3, -1, 3, 4, 7, 8, 256, math.MaxInt}

// Where things lie, reckoned by chapter 6's words.
func mapsAt(g api.Geom, group int) int    { return 3 + group*(2+g.Inodes+g.Data) }
func dataAt(g api.Geom, group, i int) int { return mapsAt(g, group) + 1 + g.Inodes + i }
func inoAt(g api.Geom, group, i int) int  { return 1 + group*3*g.Inodes + i }

func sealed(kind int, p api.Load) api.Block {
	b, _ := seal.Put(kind, 1, p)
	return b
}

// blank is a formatted disk's sectors, with these maps; in those of other groups nothing is taken.
func blank(g api.Geom, loads ...api.Load) []api.Block {
	l := make([]api.Block, 2+g.Groups*(2+g.Inodes+g.Data))
	l[0], _ = super.Format(g)
	l[1] = l[0]
	for group := range g.Groups {
		at := mapsAt(g, group)
		h, _ := maps.Head(group)
		l[at-1] = sealed(api.KindHead, h)
		l[at] = sealed(api.KindMaps, api.Load{})
		if group < len(loads) {
			l[at] = sealed(api.KindMaps, loads[group])
		}
		for i := range g.Inodes {
			l[at+1+i] = sealed(api.KindInode, api.Load{})
		}
	}
	return l
}

// rig is a volume, and what it is made of.
type rig struct {
	t *testing.T
	g api.Geom
	s *power.Supply
	d *disk.Disk
	w *nvram.Words
	v *vol.Vol
}

// fresh is a volume of such a disk, with words that are right and say none.
func fresh(t *testing.T, g api.Geom, loads ...api.Load) *rig {
	t.Helper()
	return of(t, g, api.MaxCache, blank(g, loads...))
}

func of(t *testing.T, g api.Geom, size int, l []api.Block) *rig {
	t.Helper()
	r := &rig{t: t, g: g, s: power.New()}
	r.d, _ = disk.New(len(l), r.s)
	r.d.Load(l)
	r.w = nvram.New(r.s)
	r.w.Clear()
	v, e := vol.New(r.d, r.w, size)
	if e != api.OK {
		t.Fatalf("New: %v", e)
	}
	r.v = v
	return r
}

// same holds two answers against each other (an empty list is as none).
func (r *rig) same(what string, got, want any) {
	r.t.Helper()
	if g, w := fmt.Sprint(got), fmt.Sprint(want); g != w {
		r.t.Errorf("%s: %s, want %s", what, g, w)
	}
}

// block is a Block that answers so.
func (r *rig) block(group, sector, patch int, e api.Errno) {
	r.t.Helper()
	a, b, c := alloc.Block(r.v, group)
	r.same(fmt.Sprint("Block of ", group), []any{a, b, c}, []any{sector, patch, e})
}

// inode is an Inode that answers so.
func (r *rig) inode(group, ino, patch int, e api.Errno) {
	r.t.Helper()
	a, b, c := alloc.Inode(r.v, group)
	r.same(fmt.Sprint("Inode of ", group), []any{a, b, c}, []any{ino, patch, e})
}

func (r *rig) avail(blocks, inodes int) {
	r.t.Helper()
	b, i := alloc.Avail(r.v)
	r.same("Avail", []int{b, i}, []int{blocks, inodes})
}

func (r *rig) free(kind, group, i int, want bool) {
	r.t.Helper()
	r.same(fmt.Sprint("Free of ", kind, group, i), alloc.Free(r.v, kind, group, i), want)
}

func (r *rig) pending(patches, frees int) {
	r.t.Helper()
	p, f := r.v.Pending()
	r.same("pending", []int{p, f}, []int{patches, frees})
}

func (r *rig) says(groups uint32, right bool) {
	r.t.Helper()
	g, is := r.w.Says()
	r.same("the words", []any{g, is}, []any{groups, right})
}

// load is a group's maps now.
func (r *rig) load(group int) api.Load {
	r.t.Helper()
	p, e := r.v.Load(mapsAt(r.g, group), api.KindMaps)
	r.same("Load", e, api.OK)
	return p
}

// patch is a patch of the volume's that is not refused.
func (r *rig) patch(at, off, kind int, data ...byte) int {
	r.t.Helper()
	id, e := r.v.Patch(api.Patch{At: at, Off: off, Data: data, Kind: kind})
	r.same("Patch", e, api.OK)
	return id
}

// told is all of a patch in the graph.
func (r *rig) told(id int) string {
	p, e := r.v.Graph().Get(id)
	return fmt.Sprint(p.Id, p.At, p.Off, p.Data, p.Kind, p.Needs, p.Owner, p.Child, p.Written, e)
}

// wants is a patch as to take a place makes it.
func wants(id, at, off int, x byte) string {
	return fmt.Sprint(id, at, off, []byte{x}, api.KindMaps, []int{}, 0, 0, false, api.OK)
}

// state is all that can be told of the volume and of what it is made of.
func (r *rig) state() string {
	l := []any{r.s.Used(), r.s.Gone(), r.d.Writes(), r.d.Image()}
	for at := range r.d.Len() {
		b, e := r.v.Now(at)
		l = append(l, b, e, r.d.Waits(at))
	}
	for i := range 3 {
		x, _ := r.w.Get(i)
		l = append(l, x)
	}
	for _, id := range r.v.Graph().All() {
		l = append(l, r.told(id))
	}
	p, f := r.v.Pending()
	return fmt.Sprint(append(l, p, f)...)
}

// 18.1: the chapter's example, of several shapes, and the first inode likewise.
func TestExample(t *testing.T) {
	for _, g := range []api.Geom{{Groups: 1, Inodes: 1, Data: 4}, {Groups: 2, Inodes: 3, Data: 9}, {Groups: 8, Inodes: 8, Data: 128}} {
		r := fresh(t, g)
		r.block(0, 4+g.Inodes, 1, api.OK)
		r.inode(0, 1, 2, api.OK)
	}
}

// 18.1: from a group on the first place is the group's own, and a place that is taken is passed over.
func TestFromAGroup(t *testing.T) {
	r := fresh(t, three)
	r.block(1, 14, 1, api.OK)
	r.block(1, 15, 2, api.OK)
	r.block(2, 23, 3, api.OK)
	r.block(0, 5, 4, api.OK)
	r.block(1, 16, 5, api.OK)
	r.inode(2, 7, 6, api.OK)
	r.inode(1, 4, 7, api.OK)
	r.inode(2, 8, 8, api.OK)
	r.inode(0, 1, 9, api.OK)
	r.avail(13, 5)
}

// round is the places of all groups in the order in which they are taken from a group on.
func round(g api.Geom, kind, group int) [][2]int {
	n := g.Data
	if kind == api.KindInode {
		n = 3 * g.Inodes
	}
	var l [][2]int
	for _, from := range [][2]int{{group, g.Groups}, {0, group}} {
		for at := from[0]; at < from[1]; at++ {
			for i := range n {
				l = append(l, [2]int{at, i})
			}
		}
	}
	return l
}

// empties takes all places of a kind from a group on, one by one, and holds each answer, and what is free then, against what should be.
func (r *rig) empties(kind, group int) {
	r.t.Helper()
	call, where := alloc.Block, dataAt
	if kind == api.KindInode {
		call, where = alloc.Inode, inoAt
	}
	was := [2]int{}
	was[0], was[1] = alloc.Avail(r.v)
	for k, p := range round(r.g, kind, group) {
		r.free(kind, p[0], p[1], true)
		got, id, e := call(r.v, group)
		if got != where(r.g, p[0], p[1]) || id == 0 || e != api.OK {
			r.t.Fatalf("%v of %v from %d on: %d, %d, %v", p, kind, group, got, id, e)
		}
		r.free(kind, p[0], p[1], false)
		left := was
		left[kind/api.KindInode] -= k + 1
		r.avail(left[0], left[1])
		if p[1]%50 == 49 {
			r.same("Sync", r.v.Sync(), api.OK)
		}
	}
	for at := range r.g.Groups {
		before := r.state()
		got, id, e := call(r.v, at)
		r.same("without a free one", []any{got, id, e}, []any{0, 0, api.ErrSpace})
		r.same("what it left", r.state() == before, true)
	}
}

// 18.1, 18.2, 18.3: on disks of one and of several groups all places are taken one by one, from each group on, until none is free.
func TestUntilNone(t *testing.T) {
	for _, g := range []api.Geom{{Groups: 1, Inodes: 1, Data: 4}, {Groups: 1, Inodes: 8, Data: 17}, {Groups: 2, Inodes: 3, Data: 8}, three} {
		for group := range g.Groups {
			r := fresh(t, g)
			r.avail(g.Groups*g.Data, g.Groups*g.Inodes*3)
			r.empties(api.KindRaw, group)
			r.avail(0, g.Groups*g.Inodes*3)
			r.empties(api.KindInode, group)
			r.avail(0, 0)
		}
	}
	g := api.Geom{Groups: api.MaxGroups, Inodes: api.MaxInodes, Data: api.MaxData}
	r := fresh(t, g)
	r.empties(api.KindInode, 7)
	r.avail(1024, 0)
	r.empties(api.KindRaw, 5)
	r.avail(0, 0)
}

// 18.1: the patch is of just the byte in which the bit lies, of KindMaps, needs nothing, and is of and about none; it marks its group, and nothing is written.
func TestThePatch(t *testing.T) {
	r := fresh(t, three, api.Load{0: 63}, api.Load{0: 1 + 4})
	r.patch(5, 0, 0, 9)
	r.w.Clear()
	r.block(0, 15, 2, api.OK)
	r.same("patch 2", r.told(2), wants(2, 12, 0, 7))
	r.says(2, true)
	r.block(1, 17, 3, api.OK)
	r.same("patch 3", r.told(3), wants(3, 12, 0, 15))
	r.inode(0, 1, 4, api.OK)
	r.same("patch 4", r.told(4), wants(4, 3, 16, 1))
	r.says(3, true)
	r.inode(0, 2, 5, api.OK)
	r.same("patch 5", r.told(5), wants(5, 3, 16, 3))
	r.same("writes", r.d.Writes(), 0)
	r.pending(5, 0)
}

// 18.1: each place of the greatest group lies in its own byte, and all other bits of that byte are as they were.
func TestEachPlace(t *testing.T) {
	g := api.Geom{Groups: 1, Inodes: 8, Data: 128}
	for n := range 128 + 24 {
		var p api.Load
		for i := range p {
			p[i] = 255
		}
		p[n/8] &^= 1 << (n % 8)
		r := fresh(t, g, p)
		if n < 128 {
			r.avail(1, 0)
			r.inode(0, 0, 0, api.ErrSpace)
			r.block(0, 12+n, 1, api.OK)
		} else {
			r.avail(0, 1)
			r.block(0, 0, 0, api.ErrSpace)
			r.inode(0, n-127, 1, api.OK)
		}
		r.same("the patch", r.told(1), wants(1, 3, n/8, 255))
	}
}

// 18.1, 18.3: whatever is taken in a byte, its lowest free place is taken; without one it is the next group's.
func TestEachByte(t *testing.T) {
	for x := range 256 {
		low := 0
		for low < 6 && x>>low&1 == 1 {
			low++
		}
		r := fresh(t, three, api.Load{0: byte(x), 1: 7, 16: byte(x), 53: 1}, api.Load{0: 1, 16: 1})
		if low == 6 {
			r.block(0, 15, 1, api.OK)
			r.same("the next group's", r.told(1), wants(1, 12, 0, 3))
			r.same("its maps", r.load(1), api.Load{0: 3, 16: 1})
		} else {
			r.block(0, 5+low, 1, api.OK)
			r.same("its own", r.told(1), wants(1, 3, 0, byte(x|1<<low)))
			r.same("its maps", r.load(0), api.Load{0: byte(x | 1<<low), 1: 7, 16: byte(x), 53: 1})
		}
		if low >= 3 {
			r.inode(0, 5, 2, api.OK)
			r.same("the next group's", r.told(2), wants(2, 12, 16, 3))
			continue
		}
		r.inode(0, 1+low, 2, api.OK)
		r.same("its own", r.told(2), wants(2, 3, 16, byte(x|1<<low)))
	}
}

// 18.1: a group that comes first has none: the next one that has, and behind the last group those from group 0 on.
func TestRound(t *testing.T) {
	full, none := api.Load{0: 63, 16: 7}, api.Load{}
	for _, c := range []struct {
		loads [3]api.Load
		want  [3]int // by the group that is asked: the group in which it is taken
	}{
		{[3]api.Load{none, none, none}, [3]int{0, 1, 2}},
		{[3]api.Load{full, none, none}, [3]int{1, 1, 2}},
		{[3]api.Load{none, full, none}, [3]int{0, 2, 2}},
		{[3]api.Load{none, none, full}, [3]int{0, 1, 0}},
		{[3]api.Load{none, full, full}, [3]int{0, 0, 0}},
		{[3]api.Load{full, none, full}, [3]int{1, 1, 1}},
		{[3]api.Load{full, full, none}, [3]int{2, 2, 2}},
	} {
		for group, want := range c.want {
			r := fresh(t, three, c.loads[:]...)
			r.block(group, dataAt(three, want, 0), 1, api.OK)
			r.inode(group, inoAt(three, want, 0), 2, api.OK)
			r.says(1<<want, true)
		}
	}
	r := fresh(t, three, full, full, full)
	for group := range 3 {
		r.block(group, 0, 0, api.ErrSpace)
		r.inode(group, 0, 0, api.ErrSpace)
	}
}

// 18.1: sectors of data and inodes are told apart: none of the one leaves the other as it is.
func TestOfOneKind(t *testing.T) {
	r := fresh(t, three, api.Load{0: 63}, api.Load{16: 7}, api.Load{0: 63, 16: 7})
	r.avail(6, 3)
	r.inode(0, 1, 1, api.OK)
	r.block(0, 14, 2, api.OK)
	r.inode(1, 2, 3, api.OK)
	r.block(2, 15, 4, api.OK)
	r.avail(4, 1)
}

// wrong is sectors that are not right of KindMaps.
func wrong() []api.Block {
	torn := sealed(api.KindMaps, api.Load{})
	torn[63] ^= 1
	turned := sealed(api.KindMaps, api.Load{1})
	turned[0] = 0
	l := []api.Block{{}, {1}, torn, turned}
	for _, kind := range []int{api.KindSuper, api.KindHead, api.KindInode, api.KindPtrs, api.KindDir} {
		l = append(l, sealed(kind, api.Load{}))
	}
	return l
}

// 18.1, 18.2: by maps that are not right nothing is free, and they are passed over; they are not written either.
func TestMapsNotRight(t *testing.T) {
	for _, b := range wrong() {
		l := blank(three)
		l[12] = b
		r := of(t, three, api.MaxCache, l)
		r.avail(12, 6)
		for i := range 6 {
			r.free(api.KindRaw, 1, i, false)
			r.free(api.KindInode, 1, i, false)
			r.free(api.KindRaw, 2, i, true)
		}
		r.block(1, 23, 1, api.OK)
		r.inode(1, 7, 2, api.OK)
		r.says(4, true)
		r.avail(11, 5)
		r.same("Sync", r.v.Sync(), api.OK)
		r.same("the sector", r.d.Image()[12], b)
		r.same("Group", alloc.Group(r.v, 4), 1)

		l[3], l[21] = b, b
		r = of(t, three, api.MaxCache, l)
		was := r.state()
		r.avail(0, 0)
		for group := range 3 {
			r.block(group, 0, 0, api.ErrSpace)
			r.inode(group, 0, 0, api.ErrSpace)
		}
		r.same("what it left", r.state() == was, true)
	}
}

// 18.1, 18.2: patches that are not written make maps right, wrong, taken and free; and so they are when these are stable.
func TestMapsAsPatchesMakeThem(t *testing.T) {
	l := blank(three, api.Load{0: 63, 16: 7}, api.Load{0: 62})
	l[21] = api.Block{9}
	r := of(t, three, 2, l)
	r.avail(1, 3)
	r.patch(3, 0, api.KindMaps, 63-8)
	r.patch(3, 16, api.KindMaps, 5)
	r.avail(2, 4)
	r.block(0, 8, 3, api.OK)
	r.same("behind a patch", r.told(3), wants(3, 3, 0, 63))
	r.inode(0, 2, 4, api.OK)
	r.same("behind a patch", r.told(4), wants(4, 3, 16, 7))
	r.avail(1, 3)
	r.patch(12, 0, api.KindMaps, 63)
	r.avail(0, 3)
	r.block(0, 0, 0, api.ErrSpace)
	r.patch(21, 0, api.KindMaps, 3)
	r.avail(4, 6)
	r.free(api.KindRaw, 2, 1, false)
	r.free(api.KindRaw, 2, 2, true)
	r.block(0, 25, 7, api.OK)
	r.same("made right", r.told(7), wants(7, 21, 0, 7))
	r.inode(2, 7, 8, api.OK)
	r.patch(12, 60, api.KindRaw, 1)
	r.avail(3, 2)
	r.free(api.KindInode, 1, 0, false)
	r.inode(1, 8, 10, api.OK)
	r.patch(21, 0, api.KindInode, 0)
	r.avail(0, 0)
	r.inode(0, 0, 0, api.ErrSpace)
	r.same("Sync", r.v.Sync(), api.OK)
	r.avail(0, 0)
	r.block(0, 0, 0, api.ErrSpace)
	r.patch(12, 0, api.KindMaps, 0)
	r.avail(6, 3)
}

// 18.1, 18.3: what is taken stays so when it settles, is stable then, and all else of the disk is as it was.
func TestSettled(t *testing.T) {
	for _, size := range []int{1, 2, api.MaxCache} {
		want := blank(three)
		r := of(t, three, size, want)
		r.block(0, 5, 1, api.OK)
		r.block(2, 23, 2, api.OK)
		r.same("Settle", r.v.Settle(1), api.OK)
		r.block(0, 6, 3, api.OK)
		r.inode(0, 1, 4, api.OK)
		r.same("patch 3", r.told(3), wants(3, 3, 0, 3))
		r.avail(15, 8)
		r.same("Sync", r.v.Sync(), api.OK)
		r.avail(15, 8)
		want[3], want[21] = sealed(api.KindMaps, api.Load{0: 3, 16: 1}), sealed(api.KindMaps, api.Load{0: 1})
		for at, b := range r.d.Image() {
			r.same(fmt.Sprint("sector ", at), seal.Same(b, want[at]) || b == want[at], true)
		}
		r.block(0, 7, 5, api.OK)
	}
}

// 18.1, 18.2: a place that a free gives back is free when that is done, not ahead of it, and is taken again.
func TestGivenBack(t *testing.T) {
	r := fresh(t, three, api.Load{0: 63, 16: 7}, api.Load{0: 63, 16: 7}, api.Load{0: 63, 16: 7})
	first := r.patch(5, 0, 0, 1)
	r.same("Later", r.v.Later(vol.Free{After: []int{first}, Blocks: []int{27, 7}, Ino: 6}), api.OK)
	r.avail(0, 0)
	r.block(0, 0, 0, api.ErrSpace)
	r.free(api.KindRaw, 0, 2, false)
	r.same("Settle", r.v.Settle(first), api.OK)
	r.pending(3, 0)
	r.avail(2, 1)
	r.free(api.KindRaw, 0, 2, true)
	r.free(api.KindRaw, 2, 4, true)
	r.free(api.KindInode, 1, 2, true)
	r.block(0, 7, 5, api.OK)
	r.same("patch 5", r.told(5), wants(5, 3, 0, 63))
	r.block(0, 27, 6, api.OK)
	r.inode(2, 6, 7, api.OK)
	r.avail(0, 0)
	r.same("Sync", r.v.Sync(), api.OK)
	r.avail(0, 0)
	for group := range 3 {
		r.same("maps", r.load(group), api.Load{0: 63, 16: 7})
	}
	r.same("Later", r.v.Later(vol.Free{Ino: 9}), api.OK)
	r.same("Sync", r.v.Sync(), api.OK)
	r.avail(0, 1)
	r.inode(0, 9, 9, api.OK)
}

// 18.2: bits beyond the shape's places are of no place, be they 0 or 1: they are not counted, not free, not taken, and stay as they are.
func TestBeyondTheShape(t *testing.T) {
	for _, x := range []byte{0, 255} {
		p := api.Load{}
		for i := range p {
			p[i] = x
		}
		p[0], p[16] = x&^63, x&^7
		r := fresh(t, api.Geom{Groups: 1, Inodes: 1, Data: 6}, p)
		r.avail(6, 3)
		for i := range 130 {
			r.free(api.KindRaw, 0, i, i < 6)
			r.free(api.KindInode, 0, i, i < 3)
		}
		r.empties(api.KindRaw, 0)
		r.empties(api.KindInode, 0)
		p[0], p[16] = p[0]|63, p[16]|7
		r.same("maps", r.load(0), p)
	}
}

// 18.2: Group of all inodes, and of such as there are not.
func TestGroup(t *testing.T) {
	for _, g := range []api.Geom{three, {Groups: 1, Inodes: 1, Data: 4}, {Groups: 8, Inodes: 8, Data: 4}} {
		r := fresh(t, g)
		for group := range g.Groups {
			for i := range 3 * g.Inodes {
				r.same("Group", alloc.Group(r.v, inoAt(g, group, i)), group)
			}
		}
		for _, ino := range []int{math.MinInt, -1, 0, inoAt(g, g.Groups, 0), inoAt(g, g.Groups, 9), math.MaxInt} {
			r.same("Group of none", alloc.Group(r.v, ino), 0)
		}
	}
}

// 18.2: Free of a kind, a group and a place that there is not is false, where all places are free, and where none is.
func TestFreeOfNone(t *testing.T) {
	for _, p := range []api.Load{{}, {0: 63, 16: 7}} {
		r := fresh(t, three, p, p, p)
		was := r.state()
		for _, kind := range []int{math.MinInt, -252, -1, 1, 2, 3, 5, 6, 7, 16, 255, 256, 260, math.MaxInt} {
			for i := range 9 {
				r.free(kind, 0, i, false)
			}
		}
		for _, kind := range []int{api.KindRaw, api.KindInode} {
			for _, group := range noGroups {
				r.free(kind, group, 0, false)
			}
			for _, i := range []int{math.MinInt, -128, -8, -1, 6, 7, 8, 23, 24, 127, 128, 256, math.MaxInt} {
				r.free(kind, 1, i, false)
			}
		}
		for _, i := range []int{3, 4, 5} {
			r.free(api.KindInode, 1, i, false)
		}
		r.same("what it left", r.state() == was, true)
	}
}

// 18.1, P2: groups that there are not, on disks with places and without, with power and without; that comes ahead of all else.
func TestNoGroup(t *testing.T) {
	full := api.Load{0: 63, 16: 7}
	for _, loads := range [][]api.Load{nil, {full, full, full}} {
		r := fresh(t, three, loads...)
		r.patch(5, 0, 0, 1)
		for range 2 {
			was := r.state()
			for _, group := range noGroups {
				r.block(group, 0, 0, api.ErrArg)
				r.inode(group, 0, 0, api.ErrArg)
			}
			r.same("what it left", r.state() == was, true)
			r.s.Limit(0)
			r.s.Use()
		}
	}
	r := fresh(t, api.Geom{Groups: 1, Inodes: 1, Data: 4})
	r.block(1, 0, 0, api.ErrArg)
	r.inode(1, 0, 0, api.ErrArg)
	r = fresh(t, api.Geom{Groups: 8, Inodes: 1, Data: 4})
	r.block(8, 0, 0, api.ErrArg)
	r.inode(7, 22, 1, api.OK)
}

// 18.1, 18.2: of a volume that is none; ErrNil comes ahead of a group that there is not.
func TestNoVolume(t *testing.T) {
	r := &rig{t: t}
	for _, n := range append(noGroups, 0, 1, 2) {
		r.block(n, 0, 0, api.ErrNil)
		r.inode(n, 0, 0, api.ErrNil)
		r.same("Group", alloc.Group(nil, n), 0)
		for _, kind := range []int{api.KindRaw, api.KindInode, n} {
			r.free(kind, n, 0, false)
			r.free(kind, 0, n, false)
		}
	}
	r.avail(0, 0)
}

// 18.1, 18.2: what is asked alone changes nothing, and takes no power.
func TestAsked(t *testing.T) {
	r := fresh(t, three, api.Load{0: 5})
	r.block(1, 14, 1, api.OK)
	was := r.state()
	r.s.Limit(0)
	for range 2 {
		r.avail(15, 9)
		r.same("Group", alloc.Group(r.v, 7), 2)
		r.free(api.KindRaw, 0, 0, false)
		r.free(api.KindRaw, 0, 1, true)
		r.free(api.KindRaw, 1, 0, false)
		r.free(api.KindInode, 1, 0, true)
	}
	r.same("what it left", r.state() == was, true)
}
