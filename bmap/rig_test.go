package bmap_test

import (
	"fmt"
	"math"
	"testing"

	"scupper/api"
	"scupper/bmap"
	"scupper/disk"
	"scupper/maps"
	"scupper/nvram"
	"scupper/power"
	"scupper/seal"
	"scupper/super"
	"scupper/vol"
)

// The disk of most tests: three groups of a sector of inodes and nine of data, 38 sectors in all.
// Group 0: maps 3, inodes 1 to 3 in 4, data 5 to 13. Group 1: maps 15, inodes 4 to 6 in 16, data 17 to 25. Group 2: maps 27, inodes 7 to 9 in 28, data 29 to 37.
var three = api.Geom{Groups: 3, Inodes: 1, Data: 9}

// Others: one group, the least one, and the greatest disk.
var (
	one   = api.Geom{Groups: 1, Inodes: 1, Data: 40}
	least = api.Geom{Groups: 1, Inodes: 1, Data: 4}
	great = api.Geom{Groups: 8, Inodes: 8, Data: 128}
)

// Blocks that no file has, and inodes that there are not on the disk of most tests.
var (
	noBlocks = []int{math.MinInt, -761, -1, 760, 761, 1 << 16, math.MaxInt}
	noInodes = []int{math.MinInt, -1, 0, 10, 11, 256, math.MaxInt}
)

// Where things lie, by chapter 6's words.
func mapsAt(g api.Geom, group int) int    { return 3 + group*(2+g.Inodes+g.Data) }
func dataAt(g api.Geom, group, i int) int { return mapsAt(g, group) + 1 + g.Inodes + i }

// at is an inode's sector, where in its load it begins, and its group.
func at(g api.Geom, ino int) (sector, off, group int) {
	n := ino - 1
	group = n / (3 * g.Inodes)
	return mapsAt(g, group) + 1 + n%(3*g.Inodes)/3, n % 3 * 18, group
}

// two is a number's two bytes, the lowest first.
func two(n int) []byte { return []byte{byte(n), byte(n >> 8)} }

// bytesOf is an inode's bytes, by the words of chapter 10.
func bytesOf(x api.Inode) []byte {
	l := []byte{x.Kind, x.Links, byte(x.Size), byte(x.Size >> 8), byte(x.Size >> 16), byte(x.Size >> 24)}
	for _, p := range append(x.Direct[:], x.Single, x.Double) {
		l = append(l, two(int(p))...)
	}
	return l
}

// inodeOf is the inode that has these bytes.
func inodeOf(b []byte) api.Inode {
	two := func(i int) uint16 { return uint16(b[i]) + uint16(b[i+1])<<8 }
	return api.Inode{
		Kind: b[0], Links: b[1], Size: uint32(two(2)) + uint32(two(4))<<16,
		Direct: [4]uint16{two(6), two(8), two(10), two(12)}, Single: two(14), Double: two(16),
	}
}

// table is a load of these pointers.
func table(to map[int]int) api.Load {
	var p api.Load
	for i, n := range to {
		copy(p[2*i:], two(n))
	}
	return p
}

func sealed(kind int, p api.Load) api.Block {
	b, _ := seal.Put(kind, 1, p)
	return b
}

// blank is a formatted disk's sectors, with no inode in use and nothing taken.
func blank(g api.Geom) []api.Block {
	l := make([]api.Block, 2+g.Groups*(2+g.Inodes+g.Data))
	l[0], _ = super.Format(g)
	l[1] = l[0]
	for group := range g.Groups {
		h, _ := maps.Head(group)
		l[mapsAt(g, group)-1] = sealed(api.KindHead, h)
		l[mapsAt(g, group)] = sealed(api.KindMaps, api.Load{})
		for i := range g.Inodes {
			l[mapsAt(g, group)+1+i] = sealed(api.KindInode, api.Load{})
		}
	}
	return l
}

// setInode puts an inode among a disk's sectors.
func setInode(g api.Geom, l []api.Block, ino int, x api.Inode) {
	sector, off, _ := at(g, ino)
	p, _, _ := seal.Get(api.KindInode, l[sector])
	copy(p[off:], bytesOf(x))
	l[sector] = sealed(api.KindInode, p)
}

// take takes the first so many sectors of data of a group, in its maps.
func take(g api.Geom, l []api.Block, group, count int) {
	p, _, _ := seal.Get(api.KindMaps, l[mapsAt(g, group)])
	for i := range count {
		p[i/8] |= 1 << (i % 8)
	}
	l[mapsAt(g, group)] = sealed(api.KindMaps, p)
}

// rig is a volume, and what it is made of.
type rig struct {
	t *testing.T
	g api.Geom
	s *power.Supply
	d *disk.Disk
	w *nvram.Words
	v *vol.Vol
}

// fresh is a volume of these sectors, with words that are right and say none.
func fresh(t *testing.T, g api.Geom, size int, l []api.Block) *rig {
	t.Helper()
	r := &rig{t: t, g: g, s: power.New()}
	r.d, _ = disk.New(len(l), r.s)
	r.d.Load(l)
	r.w = nvram.New(r.s)
	r.w.Clear()
	v, e := vol.New(r.d, r.w, size)
	if e != api.OK {
		t.Fatalf("New: %v", e)
	}
	r.v = v
	return r
}

// same holds two answers against each other (an empty list is as none).
func (r *rig) same(what string, got, want any) {
	r.t.Helper()
	if g, w := fmt.Sprint(got), fmt.Sprint(want); g != w {
		r.t.Errorf("%s: %s, want %s", what, g, w)
	}
}

// inode is an inode now, by its bytes in its sector.
func (r *rig) inode(ino int) api.Inode {
	r.t.Helper()
	sector, off, _ := at(r.g, ino)
	p, e := r.v.Load(sector, api.KindInode)
	r.same("the inode's sector", e, api.OK)
	return inodeOf(p[off : off+18])
}

// puts is a Put that answers so.
func (r *rig) puts(ino, k int, c bmap.Content, sector, patch int, e api.Errno) {
	r.t.Helper()
	s, id, f := bmap.Put(r.v, ino, k, c)
	r.same(fmt.Sprint("Put of ", ino, k), []any{s, id, f}, []any{sector, patch, e})
}

// hangs is a Put that is OK.
func (r *rig) hangs(ino, k int, c bmap.Content) (sector, patch int) {
	r.t.Helper()
	s, id, e := bmap.Put(r.v, ino, k, c)
	if e != api.OK {
		r.t.Fatalf("Put of %d, %d: %v", ino, k, e)
	}
	return s, id
}

// finds is a Find in this inode that answers so.
func (r *rig) finds(x api.Inode, k, sector int, e api.Errno) {
	r.t.Helper()
	s, f := bmap.Find(r.v, x, k)
	r.same(fmt.Sprint("Find of ", k), []any{s, f}, []any{sector, e})
}

func (r *rig) blocks(x api.Inode, want ...bmap.Held) {
	r.t.Helper()
	r.same("Blocks", bmap.Blocks(r.v, x), want)
}

func (r *rig) tables(x api.Inode, want ...int) {
	r.t.Helper()
	r.same("Tables", bmap.Tables(r.v, x), want)
}

func (r *rig) costs(x api.Inode, k, want int) {
	r.t.Helper()
	r.same(fmt.Sprint("Cost of ", k), bmap.Cost(r.v, x, k), want)
}

// patch is a patch of the volume's that is not refused.
func (r *rig) patch(at, off, kind int, data ...byte) int {
	r.t.Helper()
	id, e := r.v.Patch(api.Patch{At: at, Off: off, Data: data, Kind: kind})
	r.same("Patch", e, api.OK)
	return id
}

func (r *rig) says(groups uint32, right bool) {
	r.t.Helper()
	g, is := r.w.Says()
	r.same("the words", []any{g, is}, []any{groups, right})
}

func (r *rig) syncs() {
	r.t.Helper()
	r.same("Sync", r.v.Sync(), api.OK)
}

// pending is how many patches the graph has.
func (r *rig) pending(want int) {
	r.t.Helper()
	p, f := r.v.Pending()
	r.same("pending", []int{p, f}, []int{want, 0})
}

// told is all of a patch in the graph.
func (r *rig) told(id int) string {
	p, e := r.v.Graph().Get(id)
	return fmt.Sprint(p.Id, p.At, p.Off, p.Data, p.Kind, p.Needs, p.Owner, p.Child, p.Written, e)
}

// is holds a patch in the graph against what it should be.
func (r *rig) is(id int, p api.Patch) {
	r.t.Helper()
	r.same(fmt.Sprint("patch ", id), r.told(id), fmt.Sprint(id, p.At, p.Off, p.Data, p.Kind, p.Needs, p.Owner, p.Child, false, api.OK))
}

// padded is bytes with noughts behind, so many in all.
func padded(b []byte, n int) []byte {
	return append(append([]byte{}, b...), make([]byte, n-len(b))...)
}

// graph is all patches, and how many frees there are.
func (r *rig) graph() string {
	var l []any
	for _, id := range r.v.Graph().All() {
		l = append(l, r.told(id), "\n")
	}
	p, f := r.v.Pending()
	return fmt.Sprint(append(l, p, f)...)
}

// state is all that can be told of the volume and of what it is made of.
func (r *rig) state() string {
	l := []any{r.s.Used(), r.s.Gone(), r.d.Writes(), r.d.Image()}
	for at := range r.d.Len() {
		b, e := r.v.Now(at)
		l = append(l, b, e, r.d.Waits(at))
	}
	for i := range 3 {
		x, _ := r.w.Get(i)
		l = append(l, x)
	}
	return fmt.Sprint(append(l, r.graph())...)
}

// leaves holds the volume ahead of some calls against what they leave; the next patch's number among it.
func (r *rig) leaves(do func()) {
	r.t.Helper()
	was, next := r.state(), r.next()
	do()
	if r.state() != was || r.next() != next {
		r.t.Error("the volume is changed")
	}
}

// next is the number that the next patch will get.
func (r *rig) next() int {
	id, _ := r.v.Graph().Add(api.Patch{Data: []byte{0}})
	return id
}

// wrong is sectors that are not right of KindPtrs.
func wrong() []api.Block {
	p := table(map[int]int{0: 7, 1: 8, 26: 9})
	l := []api.Block{{}, {1}, {54: 5, 55: 250}}
	for _, i := range []int{0, 20, 53, 54, 55, 56, 60, 63} {
		b := sealed(api.KindPtrs, p)
		b[i] ^= 1
		l = append(l, b)
	}
	for _, kind := range []int{api.KindSuper, api.KindHead, api.KindMaps, api.KindInode, api.KindDir} {
		l = append(l, sealed(kind, p))
	}
	return l
}
