package itab_test

import (
	"fmt"
	"math"
	"testing"

	"scupper/api"
	"scupper/disk"
	"scupper/inode"
	"scupper/itab"
	"scupper/maps"
	"scupper/nvram"
	"scupper/power"
	"scupper/seal"
	"scupper/super"
	"scupper/vol"
)

// The disk of most tests: three groups of two sectors of inodes and four of data, 26 sectors in all.
// Group 0: inodes 1 to 6 in sectors 4 and 5. Group 1: inodes 7 to 12 in 12 and 13. Group 2: inodes 13 to 18 in 20 and 21.
var three = api.Geom{Groups: 3, Inodes: 2, Data: 4}

// shapes is disks of one and of several groups, the least and the greatest among them.
var shapes = []api.Geom{three, {Groups: 1, Inodes: 1, Data: 4}, {Groups: 1, Inodes: 8, Data: 5}, {Groups: 5, Inodes: 3, Data: 7}, {Groups: 8, Inodes: 8, Data: 128}}

// Inodes and fields that there are not, of the disk of most tests.
var (
	noInodes = []int{math.MinInt, -18, -1, 0, 19, 20, 24, 256, math.MaxInt}
	noFields = []inode.Field{math.MinInt, -256, -1, 10, 11, 18, 256, math.MaxInt}
)

// fields is where the fields lie among an inode's bytes, and how long they are, by the words of chapter 10.
var fields = [][2]int{{0, 18}, {1, 1}, {2, 4}, {6, 2}, {8, 2}, {10, 2}, {12, 2}, {14, 2}, {16, 2}, {2, 16}}

// at is an inode's sector, where in its load it begins, and its group, by the words of chapter 6.
func at(g api.Geom, ino int) (sector, off, group int) {
	n := ino - 1
	group = n / (3 * g.Inodes)
	return 4 + group*(2+g.Inodes+g.Data) + n%(3*g.Inodes)/3, n % 3 * 18, group
}

// count is how many inodes a shape has.
func count(g api.Geom) int { return 3 * g.Groups * g.Inodes }

// bytesOf is an inode's bytes, by the words of chapter 10.
func bytesOf(x api.Inode) []byte {
	l := []byte{x.Kind, x.Links, byte(x.Size), byte(x.Size >> 8), byte(x.Size >> 16), byte(x.Size >> 24)}
	for _, p := range append(x.Direct[:], x.Single, x.Double) {
		l = append(l, byte(p), byte(p>>8))
	}
	return l
}

// of is the inode that has these bytes.
func of(b []byte) api.Inode {
	two := func(i int) uint16 { return uint16(b[i]) + uint16(b[i+1])<<8 }
	return api.Inode{
		Kind: b[0], Links: b[1], Size: uint32(two(2)) + uint32(two(4))<<16,
		Direct: [4]uint16{two(6), two(8), two(10), two(12)}, Single: two(14), Double: two(16),
	}
}

// unlike is an inode of which all bytes are unlike those of its neighbours.
func unlike(n int) api.Inode {
	b := make([]byte, 18)
	for i := range b {
		b[i] = byte(1 + (n*19+i*7)%255)
	}
	return of(b)
}

func sealed(kind int, p api.Load) api.Block {
	b, _ := seal.Put(kind, 1, p)
	return b
}

// blank is a formatted disk's sectors, with no inode in use.
func blank(g api.Geom) []api.Block {
	each := 2 + g.Inodes + g.Data
	l := make([]api.Block, 2+g.Groups*each)
	l[0], _ = super.Format(g)
	l[1] = l[0]
	for group := range g.Groups {
		h, _ := maps.Head(group)
		l[2+group*each] = sealed(api.KindHead, h)
		l[3+group*each] = sealed(api.KindMaps, api.Load{})
		for i := range g.Inodes {
			l[4+group*each+i] = sealed(api.KindInode, api.Load{})
		}
	}
	return l
}

// full is a formatted disk's sectors, with inode n as is tells.
func full(g api.Geom, is func(n int) api.Inode) []api.Block {
	l := blank(g)
	for ino := 1; ino <= count(g); ino += 3 {
		var p api.Load
		for slot := range 3 {
			copy(p[18*slot:], bytesOf(is(ino+slot)))
		}
		sector, _, _ := at(g, ino)
		l[sector] = sealed(api.KindInode, p)
	}
	return l
}

// rig is a volume, and what it is made of.
type rig struct {
	t *testing.T
	g api.Geom
	s *power.Supply
	d *disk.Disk
	w *nvram.Words
	v *vol.Vol
}

// fresh is a volume of these sectors, with words that are right and say none.
func fresh(t *testing.T, g api.Geom, size int, l []api.Block) *rig {
	t.Helper()
	r := &rig{t: t, g: g, s: power.New()}
	r.d, _ = disk.New(len(l), r.s)
	r.d.Load(l)
	r.w = nvram.New(r.s)
	r.w.Clear()
	v, e := vol.New(r.d, r.w, size)
	if e != api.OK {
		t.Fatalf("New: %v", e)
	}
	r.v = v
	return r
}

// same holds two answers against each other (an empty list is as none).
func (r *rig) same(what string, got, want any) {
	r.t.Helper()
	if g, w := fmt.Sprint(got), fmt.Sprint(want); g != w {
		r.t.Errorf("%s: %s, want %s", what, g, w)
	}
}

// is is a Load that answers so.
func (r *rig) is(ino int, want api.Inode, e api.Errno) {
	r.t.Helper()
	x, f := itab.Load(r.v, ino)
	r.same(fmt.Sprint("Load of ", ino), []any{x, f}, []any{want, e})
}

// set is a Set that answers so.
func (r *rig) set(ino int, f inode.Field, x api.Inode, needs []int, patch int, e api.Errno) {
	r.t.Helper()
	id, g := itab.Set(r.v, ino, f, x, needs...)
	r.same(fmt.Sprint("Set of ", ino, f, needs), []any{id, g}, []any{patch, e})
}

// about is an About that answers so.
func (r *rig) about(ino, child int, f inode.Field, x api.Inode, needs []int, patch int, e api.Errno) {
	r.t.Helper()
	id, g := itab.About(r.v, ino, child, f, x, needs...)
	r.same(fmt.Sprint("About of ", ino, child, f, needs), []any{id, g}, []any{patch, e})
}

func (r *rig) all(want ...int) {
	r.t.Helper()
	r.same("All", itab.All(r.v), want)
}

// patch is a patch of the volume's that is not refused.
func (r *rig) patch(at, off, kind int, data ...byte) int {
	r.t.Helper()
	id, e := r.v.Patch(api.Patch{At: at, Off: off, Data: data, Kind: kind})
	r.same("Patch", e, api.OK)
	return id
}

func (r *rig) says(groups uint32, right bool) {
	r.t.Helper()
	g, is := r.w.Says()
	r.same("the words", []any{g, is}, []any{groups, right})
}

func (r *rig) syncs() {
	r.t.Helper()
	r.same("Sync", r.v.Sync(), api.OK)
}

// told is all of a patch in the graph.
func (r *rig) told(id int) string {
	p, e := r.v.Graph().Get(id)
	return fmt.Sprint(p.Id, p.At, p.Off, p.Data, p.Kind, p.Needs, p.Owner, p.Child, p.Written, e)
}

// wants is the patch that sets a field, by the words of the chapter.
func (r *rig) wants(id, ino, child int, f inode.Field, x api.Inode, needs ...int) string {
	sector, off, _ := at(r.g, ino)
	from, long := fields[f][0], fields[f][1]
	return fmt.Sprint(id, sector, off+from, bytesOf(x)[from:from+long], 4, needs, ino, child, false, api.OK)
}

// state is all that can be told of the volume and of what it is made of.
func (r *rig) state() string {
	l := []any{r.s.Used(), r.s.Gone(), r.d.Writes(), r.d.Image()}
	for at := range r.d.Len() {
		b, e := r.v.Now(at)
		l = append(l, b, e, r.d.Waits(at))
	}
	for i := range 3 {
		x, _ := r.w.Get(i)
		l = append(l, x)
	}
	for _, id := range r.v.Graph().All() {
		l = append(l, r.told(id))
	}
	p, f := r.v.Pending()
	return fmt.Sprint(append(l, p, f)...)
}

// leaves holds the volume ahead of some calls against what they leave.
func (r *rig) leaves(do func()) {
	r.t.Helper()
	was := r.state()
	do()
	if r.state() != was {
		r.t.Error("the volume is changed")
	}
}

// 19.1: the chapter's example, on disks of several shapes.
func TestExample(t *testing.T) {
	root := api.Inode{Kind: api.InodeDir, Links: 2, Size: 64, Direct: [4]uint16{6}}
	for _, g := range shapes {
		r := fresh(t, g, 3, blank(g))
		r.set(1, inode.All, root, nil, 1, api.OK)
		r.is(1, root, api.OK)
		r.is(2, api.Inode{}, api.OK)
		r.all(1)
	}
}

// 19.1: an inode as the disk has it: each one of each group, by its own slot, whatever a cache holds.
func TestAsTheDiskHasIt(t *testing.T) {
	for _, g := range shapes {
		for _, size := range []int{1, 4, api.MaxCache} {
			r := fresh(t, g, size, full(g, unlike))
			for n := range count(g) {
				r.is(n+1, unlike(n+1), api.OK)
				r.is(count(g)-n, unlike(count(g)-n), api.OK)
			}
		}
	}
}

// 19.1: an inode is told whether it may be or not, and any may be set.
func TestAnyInode(t *testing.T) {
	for n, x := range []api.Inode{
		{},
		{Kind: 1, Links: 200, Size: 48640},
		{Kind: 1, Links: 255, Size: math.MaxUint32},
		{Kind: 2, Size: 65},
		{Kind: 3},
		{Kind: 255, Double: 65535},
		{Links: 1},
		{Size: 1 << 24},
		{Kind: 1, Direct: [4]uint16{65535, 0, 1, 256}, Single: 2047, Double: 2048},
	} {
		r := fresh(t, three, 9, full(three, func(int) api.Inode { return x }))
		r.is(18, x, api.OK)
		ino := 2*n + 1
		r = fresh(t, three, 9, full(three, unlike))
		r.set(ino, inode.All, x, nil, 1, api.OK)
		r.is(ino, x, api.OK)
		r.is(ino+1, unlike(ino+1), api.OK)
		r.syncs()
		r.is(ino, x, api.OK)
	}
}

// 19.1: an inode as patches that are not written make it, others' among them: of some bytes, of bytes of two inodes, and of the sector's bytes.
func TestAsPatchesMakeIt(t *testing.T) {
	r := fresh(t, three, 1, full(three, unlike))
	x, y := unlike(8), unlike(9)
	r.patch(12, 18+1, 4, 77)
	x.Links = 77
	r.is(8, x, api.OK)
	r.patch(12, 35, 4, 1, 2, 3)
	x.Double = x.Double&255 + 1<<8
	y.Kind, y.Links = 2, 3
	r.is(8, x, api.OK)
	r.is(9, y, api.OK)
	r.is(7, unlike(7), api.OK)
	b := sealed(4, api.Load{17: 9, 18: 1, 36: 2})
	r.patch(12, 0, 0, b[:]...)
	r.is(7, api.Inode{Double: 9 << 8}, api.OK)
	r.is(8, api.Inode{Kind: 1}, api.OK)
	r.is(9, api.Inode{Kind: 2}, api.OK)
	r.set(8, inode.Links, unlike(3), nil, 4, api.OK)
	r.is(8, api.Inode{Kind: 1, Links: unlike(3).Links}, api.OK)
	r.is(10, unlike(10), api.OK)
	r.same("the disk", r.d.Image()[12], full(three, unlike)[12])
}

// 19.1: what is set is so now, behind what it needs, written or not, stable, and on a volume that is made of the disk anew.
func TestWhenItSettles(t *testing.T) {
	for _, size := range []int{1, 2, api.MaxCache} {
		r := fresh(t, three, size, full(three, unlike))
		x := unlike(14)
		r.patch(6, 0, 0, 5)
		r.set(14, inode.Size, unlike(1), []int{1}, 2, api.OK)
		r.set(14, inode.Links, unlike(2), nil, 3, api.OK)
		x.Size, x.Links = unlike(1).Size, unlike(2).Links
		r.same("Ready", r.v.Ready(20), []int{3})
		r.same("Settle", r.v.Settle(3), api.OK)
		r.is(14, x, api.OK)
		half := unlike(14)
		half.Links = x.Links
		p, _, _ := seal.Get(4, r.d.Image()[20])
		r.same("the disk, half way", of(p[18:36]), half)
		r.same("Settle", r.v.Settle(2), api.OK)
		r.is(14, x, api.OK)
		r.syncs()
		r.v, _ = vol.New(r.d, r.w, 5)
		r.is(14, x, api.OK)
		r.is(13, unlike(13), api.OK)
		r.is(15, unlike(15), api.OK)
	}
}

// 19.1: each field of each inode is set by a patch of just its bytes, of KindInode, its Owner the inode, its Child what is given (0 with Set), and no need; all of them at once, on disks of several shapes.
func TestThePatch(t *testing.T) {
	for _, g := range shapes[:4] {
		r := fresh(t, g, 7, full(g, unlike))
		id := 0
		for ino := 1; ino <= count(g); ino++ {
			x := unlike(ino + 300)
			for f := range inode.Field(10) {
				r.set(ino, f, x, nil, id+1, api.OK)
				r.same("Set's patch", r.told(id+1), r.wants(id+1, ino, 0, f, x))
				r.about(ino, id-9, f, x, nil, id+2, api.OK)
				r.same("About's patch", r.told(id+2), r.wants(id+2, ino, id-9, f, x))
				id += 2
			}
		}
		r.same("writes", r.d.Writes(), 0)
		r.same("By", len(r.v.By(2)), 20)
	}
}

// 19.1: the greatest disk's last inodes.
func TestTheLast(t *testing.T) {
	g := shapes[4]
	r := fresh(t, g, 7, full(g, unlike))
	r.set(192, inode.Double, unlike(5), nil, 1, api.OK)
	r.same("the patch", r.told(1), fmt.Sprint(1, 2+7*138+2+7, 52, bytesOf(unlike(5))[16:], 4, []int{}, 192, 0, false, api.OK))
	r.set(169, inode.Links, unlike(5), nil, 2, api.OK)
	r.same("the patch", r.told(2), fmt.Sprint(2, 2+7*138+2, 1, bytesOf(unlike(5))[1:2], 4, []int{}, 169, 0, false, api.OK))
	r.says(1<<7, true)
	r.set(193, inode.Links, unlike(5), nil, 0, api.ErrArg)
	r.is(193, api.Inode{}, api.ErrArg)
}

// 19.1: needs as they were given: none, one, several, in any order, one twice, such as are stable, and of any sector.
func TestNeeds(t *testing.T) {
	r := fresh(t, three, 9, blank(three))
	x := unlike(1)
	for k := range 4 {
		r.patch(6+k, 0, 0, 1)
	}
	r.same("Settle", r.v.Settle(2), api.OK)
	id := 4
	for _, needs := range [][]int{nil, {}, {1}, {2}, {1, 3}, {4, 3, 2, 1}, {3, 3}, {5}, {7, 5, 1, 5}} {
		id++
		r.set(4, inode.Size, x, needs, id, api.OK)
		r.same("Set's patch", r.told(id), r.wants(id, 4, 0, inode.Size, x, needs...))
		id++
		r.about(4, 9, inode.Tail, x, needs, id, api.OK)
		r.same("About's patch", r.told(id), r.wants(id, 4, 9, inode.Tail, x, needs...))
	}
	r.same("what comes ahead", r.v.Needed(9), []int{1, 5, 6, 7, 8, 9})
	r.same("what is ready", r.v.Ready(5), []int{5, 6, 7, 8}) // those behind them need patch 1, or meet one that does
}

// 19.1: the list of needs is not kept, and not changed.
func TestNeedsAreTheCallers(t *testing.T) {
	r := fresh(t, three, 9, blank(three))
	r.patch(6, 0, 0, 1)
	r.patch(7, 0, 0, 1)
	needs := []int{1, 2, 77, 78}
	r.set(1, inode.Links, unlike(1), needs[:2], 3, api.OK)
	r.about(1, 2, inode.Links, unlike(1), needs[:2], 4, api.OK)
	r.same("the list", needs, []int{1, 2, 77, 78})
	needs[0], needs[1] = 2, 88
	r.same("Set's patch", r.told(3), r.wants(3, 1, 0, inode.Links, unlike(1), 1, 2))
	r.same("About's patch", r.told(4), r.wants(4, 1, 2, inode.Links, unlike(1), 1, 2))
}

// 19.1: the Child is any number, and is found by it.
func TestChild(t *testing.T) {
	r := fresh(t, three, 9, blank(three))
	id := 0
	for _, child := range []int{0, 1, 4, 18, 19, 1000, -1, math.MinInt, math.MaxInt} {
		id++
		r.about(4, child, inode.Links, unlike(1), nil, id, api.OK)
		r.same("the patch", r.told(id), r.wants(id, 4, child, inode.Links, unlike(1)))
		r.same("About", r.v.About(child), []int{id})
	}
	r.set(5, inode.Links, unlike(1), nil, id+1, api.OK)
	r.same("About none", r.v.About(0), []int{1, id + 1})
	r.same("By", r.v.By(5), []int{id + 1})
}

// 19.1: the inode's group is marked, by three units of power, and nothing is written.
func TestMarks(t *testing.T) {
	for ino := 1; ino <= count(three); ino++ {
		r := fresh(t, three, 9, blank(three))
		_, _, group := at(three, ino)
		used := r.s.Used()
		r.set(ino, inode.Size, unlike(1), nil, 1, api.OK)
		r.says(1<<group, true)
		r.about(ino, 1, inode.Links, unlike(1), nil, 2, api.OK)
		r.same("used", r.s.Used()-used, 3)
		r.same("writes", r.d.Writes(), 0)
	}
}

// 19.1, P2: inodes and fields that there are not, and needs that were not given: nothing is changed, and no number is given.
func TestArg(t *testing.T) {
	r := fresh(t, three, 9, full(three, unlike))
	r.patch(6, 0, 0, 1)
	r.patch(7, 0, 0, 1)
	x := unlike(2)
	r.leaves(func() {
		for _, ino := range noInodes {
			r.is(ino, api.Inode{}, api.ErrArg)
			for f := range inode.Field(10) {
				r.set(ino, f, x, nil, 0, api.ErrArg)
				r.about(ino, 3, f, x, []int{1}, 0, api.ErrArg)
			}
			for _, f := range noFields {
				r.set(ino, f, x, nil, 0, api.ErrArg)
			}
		}
		for _, f := range noFields {
			for ino := 1; ino <= count(three); ino++ {
				r.set(ino, f, x, nil, 0, api.ErrArg)
				r.about(ino, 3, f, x, []int{1}, 0, api.ErrArg)
			}
		}
		for _, need := range []int{math.MinInt, -1, 0, 3, 4, math.MaxInt} {
			r.set(2, inode.All, x, []int{need}, 0, api.ErrArg)
			r.about(2, 1, inode.Links, x, []int{1, need, 2}, 0, api.ErrArg)
			r.about(18, 1, inode.Links, x, []int{need, 1}, 0, api.ErrArg)
		}
	})
	r.says(1, true)
	r.set(2, inode.All, x, []int{2}, 3, api.OK)
	r.is(2, x, api.OK)
}

// wrong is sectors that are not right of KindInode.
func wrong() []api.Block {
	l := []api.Block{{}, {1}, {54: 4, 55: 251}}
	for _, i := range []int{0, 20, 53, 54, 55, 56, 60, 63} {
		b := sealed(api.KindInode, api.Load{1, 2, 3})
		b[i] ^= 1
		l = append(l, b)
	}
	for _, kind := range []int{api.KindSuper, api.KindHead, api.KindMaps, api.KindPtrs, api.KindDir} {
		l = append(l, sealed(kind, api.Load{1, 2, 3, 18: 1, 36: 1}))
	}
	return l
}

// 19.1, 19.2: the inodes of a sector that is not right tell ErrSeal, and are none of All; all others are there; nothing is changed.
func TestSeal(t *testing.T) {
	for _, b := range wrong() {
		l := full(three, unlike)
		l[12] = b
		r := fresh(t, three, 9, l)
		r.leaves(func() {
			for ino := 1; ino <= count(three); ino++ {
				if ino >= 7 && ino <= 9 {
					r.is(ino, api.Inode{}, api.ErrSeal)
					continue
				}
				r.is(ino, unlike(ino), api.OK)
			}
			r.is(0, api.Inode{}, api.ErrArg)
			r.all(1, 2, 3, 4, 5, 6, 10, 11, 12, 13, 14, 15, 16, 17, 18)
		})
		l[4], l[5], l[13], l[20], l[21] = b, b, b, b, b
		r = fresh(t, three, 1, l)
		r.is(18, api.Inode{}, api.ErrSeal)
		r.all()
	}
}

// 19.1: a field is set in a sector that is not right all the same: that is right then, and all else in it is noughts.
func TestSetInWrong(t *testing.T) {
	for _, b := range wrong() {
		l := full(three, unlike)
		l[12] = b
		r := fresh(t, three, 9, l)
		r.set(8, inode.Tail, unlike(1), nil, 1, api.OK)
		r.same("the patch", r.told(1), r.wants(1, 8, 0, inode.Tail, unlike(1)))
		x := unlike(1)
		x.Kind, x.Links = 0, 0
		for range 2 {
			r.is(7, api.Inode{}, api.OK)
			r.is(8, x, api.OK)
			r.is(9, api.Inode{}, api.OK)
			r.is(6, unlike(6), api.OK)
			r.is(10, unlike(10), api.OK)
			r.all(1, 2, 3, 4, 5, 6, 10, 11, 12, 13, 14, 15, 16, 17, 18)
			r.syncs()
		}
	}
}

// 19.1, 19.2: whether a sector is right is asked of what it is now: patches that are not written make it right, and make it wrong.
func TestSealNow(t *testing.T) {
	l := full(three, unlike)
	l[4] = api.Block{9}
	r := fresh(t, three, 9, l)
	r.is(2, api.Inode{}, api.ErrSeal)
	r.patch(4, 18, 4, 1)
	r.is(2, api.Inode{Kind: 1}, api.OK)
	r.is(1, api.Inode{}, api.OK)
	r.all(2, 4, 5, 6, 7, 8, 9, 10, 11, 12, 13, 14, 15, 16, 17, 18)
	r.patch(12, 60, 0, 1, 2)
	r.is(7, api.Inode{}, api.ErrSeal)
	r.all(2, 4, 5, 6, 10, 11, 12, 13, 14, 15, 16, 17, 18)
	r.patch(4, 0, 6, 1)
	r.is(2, api.Inode{}, api.ErrSeal)
	r.all(4, 5, 6, 10, 11, 12, 13, 14, 15, 16, 17, 18)
	r.set(9, inode.All, unlike(40), nil, 4, api.OK)
	r.is(9, unlike(40), api.OK)
	r.is(8, api.Inode{}, api.OK)
	for range 2 {
		r.all(4, 5, 6, 9, 10, 11, 12, 13, 14, 15, 16, 17, 18)
		r.syncs()
	}
	r.is(3, api.Inode{}, api.ErrSeal)
}

// 19.2: All is by the kind alone, of whatever number: an inode of kind 0 is none, whatever else it has.
func TestAllByKind(t *testing.T) {
	none := func(int) api.Inode {
		return api.Inode{Links: 255, Size: math.MaxUint32, Direct: [4]uint16{9, 9, 9, 9}, Single: 9, Double: 9}
	}
	for _, g := range shapes {
		r := fresh(t, g, 2, blank(g))
		r.all()
		r = fresh(t, g, 2, full(g, none))
		r.all()
		var want []int
		for ino := 1; ino <= count(g); ino++ {
			want = append(want, ino)
		}
		r = fresh(t, g, 2, full(g, unlike))
		r.all(want...)
		r = fresh(t, g, 2, full(g, func(ino int) api.Inode {
			x := none(ino)
			x.Kind = uint8(ino % 5 / 2 * 127)
			return x
		}))
		var some []int
		for _, ino := range want {
			if ino%5 >= 2 {
				some = append(some, ino)
			}
		}
		r.all(some...)
	}
}

// 19.2: All is of the inodes now: set and set back, in any order, it is rising; it is the same when all is stable.
func TestAllNow(t *testing.T) {
	r := fresh(t, three, 2, blank(three))
	for k, ino := range []int{18, 1, 9, 7, 3, 10} {
		r.set(ino, inode.All, api.Inode{Kind: uint8(1 + k%2), Links: 1}, nil, k+1, api.OK)
	}
	r.all(1, 3, 7, 9, 10, 18)
	r.set(4, inode.Tail, unlike(1), nil, 7, api.OK)
	r.set(5, inode.Links, unlike(1), nil, 8, api.OK)
	r.set(7, inode.All, api.Inode{}, nil, 9, api.OK)
	for range 2 {
		r.all(1, 3, 9, 10, 18)
		r.syncs()
	}
	r.set(3, inode.All, api.Inode{Links: 1}, nil, 10, api.OK)
	r.set(2, inode.All, api.Inode{Kind: 200}, []int{10}, 11, api.OK)
	r.all(1, 2, 9, 10, 18)
	l := itab.All(r.v)
	l[0] = 99
	r.all(1, 2, 9, 10, 18)
}

// 19.1, 19.2: of a volume that is none; ErrNil comes ahead of all else.
func TestNoVolume(t *testing.T) {
	r := &rig{t: t}
	for _, ino := range append(noInodes, 1, 2, 3) {
		r.is(ino, api.Inode{}, api.ErrNil)
		for _, f := range append(noFields, inode.All, inode.Tail) {
			r.set(ino, f, unlike(1), nil, 0, api.ErrNil)
			r.set(ino, f, unlike(1), []int{0}, 0, api.ErrNil)
			r.about(ino, 1, f, unlike(1), nil, 0, api.ErrNil)
		}
	}
	r.all()
}

// 19.1, 19.2: what is asked alone changes nothing, and takes no power.
func TestAsked(t *testing.T) {
	l := full(three, unlike)
	l[13] = api.Block{}
	r := fresh(t, three, 9, l)
	r.set(9, inode.All, unlike(50), nil, 1, api.OK)
	r.s.Limit(0)
	r.leaves(func() {
		for range 2 {
			r.is(9, unlike(50), api.OK)
			r.is(1, unlike(1), api.OK)
			r.is(12, api.Inode{}, api.ErrSeal)
			r.is(19, api.Inode{}, api.ErrArg)
			r.all(1, 2, 3, 4, 5, 6, 7, 8, 9, 13, 14, 15, 16, 17, 18)
		}
	})
}
