package dir_test

import (
	"fmt"
	"math"
	"strings"
	"testing"

	"scupper/alloc"
	"scupper/api"
	"scupper/dir"
	"scupper/disk"
	"scupper/maps"
	"scupper/nvram"
	"scupper/power"
	"scupper/seal"
	"scupper/super"
	"scupper/vol"
)

// The disk of most tests: three groups of a sector of inodes and nine of data, 38 sectors in all.
// Group 0: maps 3, inodes 1 to 3 in 4, data 5 to 13. Group 1: maps 15, inodes 4 to 6 in 16, data 17 to 25. Group 2: maps 27, inodes 7 to 9 in 28, data 29 to 37.
var three = api.Geom{Groups: 3, Inodes: 1, Data: 9}

// Others: one group, whose data are sectors 5 to 44; the least disk; and one on which the greatest directory has room.
var (
	one   = api.Geom{Groups: 1, Inodes: 1, Data: 40}
	least = api.Geom{Groups: 1, Inodes: 1, Data: 4}
	wide  = api.Geom{Groups: 7, Inodes: 1, Data: 128}
)

// Inodes that there are not on the disk of most tests, such as no entry has, and texts that are no names.
var (
	noInodes  = []int{math.MinInt, -1, 0, 10, 11, 256, math.MaxInt}
	noEntries = []int{math.MinInt, -1, 0, 65536, 65537, math.MaxInt}
	noNames   = []string{"", ".", "..", "/", "a/b", "a b", "\x00", "\x7f", "ä", "eleven.long", strings.Repeat("x", 300)}
)

// Where things lie, by chapter 6's words.
func mapsAt(g api.Geom, group int) int    { return 3 + group*(2+g.Inodes+g.Data) }
func dataAt(g api.Geom, group, i int) int { return mapsAt(g, group) + 1 + g.Inodes + i }

// at is an inode's sector, where in its load it begins, and its group.
func at(g api.Geom, ino int) (sector, off, group int) {
	n := ino - 1
	group = n / (3 * g.Inodes)
	return mapsAt(g, group) + 1 + n%(3*g.Inodes)/3, n % 3 * 18, group
}

// wayOf is where block k is pointed to, by the words of chapter 11: which of the inode's six pointers, and the places in the sectors of pointers.
func wayOf(k int) []int {
	switch {
	case k < 4:
		return []int{k}
	case k < 31:
		return []int{4, k - 4}
	}
	return []int{5, (k - 31) / 27, (k - 31) % 27}
}

// two is a number's two bytes, the lowest first; four its four.
func two(n int) []byte  { return []byte{byte(n), byte(n >> 8)} }
func four(n int) []byte { return append(two(n), two(n>>16)...) }

// own is an inode's six pointers.
func own(x api.Inode) []uint16 { return append(x.Direct[:], x.Single, x.Double) }

// bytesOf is an inode's bytes, by the words of chapter 10.
func bytesOf(x api.Inode) []byte {
	l := append([]byte{x.Kind, x.Links}, four(int(x.Size))...)
	for _, p := range own(x) {
		l = append(l, two(int(p))...)
	}
	return l
}

// inodeOf is the inode that has these bytes.
func inodeOf(b []byte) api.Inode {
	two := func(i int) uint16 { return uint16(b[i]) + uint16(b[i+1])<<8 }
	return api.Inode{
		Kind: b[0], Links: b[1], Size: uint32(two(2)) + uint32(two(4))<<16,
		Direct: [4]uint16{two(6), two(8), two(10), two(12)}, Single: two(14), Double: two(16),
	}
}

func ent(ino int, name string) api.Entry { return api.Entry{Ino: ino, Name: name} }

// bytes13 is a slot's bytes, by the words of chapter 12; noughts of an entry without a name.
func bytes13(e api.Entry) []byte {
	l := append(two(e.Ino), byte(len(e.Name)))
	return padded(append(l, e.Name...), 13)
}

// names is a load of these entries, from slot 0 on; such as have no name leave their slot empty.
func names(l ...api.Entry) api.Load {
	var p api.Load
	for i, e := range l {
		if e.Name != "" {
			copy(p[13*i:], bytes13(e))
		}
	}
	return p
}

// full is block k of a directory whose names tell where they lie; each with an inode of its own.
func full(k int) api.Load {
	return names(nth(4*k), nth(4*k+1), nth(4*k+2), nth(4*k+3))
}

// nth is entry i of such a directory.
func nth(i int) api.Entry { return ent(1+i*7, fmt.Sprint("n", i)) }

// nths is these entries in order, from one on and up to another one.
func nths(from, to int) []api.Entry {
	var l []api.Entry
	for i := from; i < to; i++ {
		l = append(l, nth(i))
	}
	return l
}

// table is a load of these pointers.
func table(to map[int]int) api.Load {
	var p api.Load
	for i, n := range to {
		copy(p[2*i:], two(n))
	}
	return p
}

func sealed(kind int, p api.Load) api.Block {
	b, _ := seal.Put(kind, 1, p)
	return b
}

// image is a disk's sectors as they are made for a test.
type image struct {
	g api.Geom
	l []api.Block
}

// made is a directory that is there from the beginning: its inode, and where its blocks and its sectors of pointers lie (Single 0, Double 1, those of Double from 2 on; 0: none).
type made struct {
	x      api.Inode
	block  map[int]int
	tables [29]int
}

// held is a block of a directory.
type held struct {
	k int
	p api.Load
}

// blank is a formatted disk's sectors, on which all inodes are directories without blocks, and nothing is taken.
func blank(g api.Geom) *image {
	m := &image{g: g, l: make([]api.Block, 2+g.Groups*(2+g.Inodes+g.Data))}
	m.l[0], _ = super.Format(g)
	m.l[1] = m.l[0]
	for group := range g.Groups {
		h, _ := maps.Head(group)
		m.l[mapsAt(g, group)-1] = sealed(api.KindHead, h)
		m.l[mapsAt(g, group)] = sealed(api.KindMaps, api.Load{})
		for i := range g.Inodes {
			m.l[mapsAt(g, group)+1+i] = sealed(api.KindInode, api.Load{})
		}
	}
	for ino := 1; ino <= 3*g.Inodes*g.Groups; ino++ {
		m.set(ino, api.Inode{Kind: api.InodeDir})
	}
	return m
}

// set puts an inode among the sectors.
func (m *image) set(ino int, x api.Inode) {
	sector, off, _ := at(m.g, ino)
	p, _, _ := seal.Get(api.KindInode, m.l[sector])
	copy(p[off:], bytesOf(x))
	m.l[sector] = sealed(api.KindInode, p)
}

// take takes the first free sector, from a group on.
func (m *image) take(from int) int {
	for ahead := range m.g.Groups {
		group := (from + ahead) % m.g.Groups
		p, _, _ := seal.Get(api.KindMaps, m.l[mapsAt(m.g, group)])
		for i := range m.g.Data {
			if p[i/8]>>(i%8)&1 == 0 {
				p[i/8] |= 1 << (i % 8)
				m.l[mapsAt(m.g, group)] = sealed(api.KindMaps, p)
				return dataAt(m.g, group, i)
			}
		}
	}
	panic("no sector is free")
}

// fill takes sectors, from a group on, till just so many are free.
func (m *image) fill(from, left int) {
	free := 0
	for group := range m.g.Groups {
		p, _, _ := seal.Get(api.KindMaps, m.l[mapsAt(m.g, group)])
		for i := range m.g.Data {
			free += 1 - int(p[i/8]>>(i%8)&1)
		}
	}
	for ; free > left; free-- {
		m.take(from)
	}
}

// lead sets a pointer of a sector of pointers.
func (m *image) lead(sector, place, to int) {
	p, _, _ := seal.Get(api.KindPtrs, m.l[sector])
	copy(p[2*place:], two(to))
	m.l[sector] = sealed(api.KindPtrs, p)
}

// dir makes inode ino a directory of that size with these blocks: each is taken from the inode's group on, and behind it the sectors of pointers that it needs and that are not there yet.
func (m *image) dir(ino, size int, blocks ...held) *made {
	_, _, group := at(m.g, ino)
	f := &made{x: api.Inode{Kind: api.InodeDir, Links: 1, Size: uint32(size)}, block: map[int]int{}}
	hop := func(n int) int {
		if f.tables[n] == 0 {
			f.tables[n] = m.take(group)
			m.l[f.tables[n]] = sealed(api.KindPtrs, api.Load{})
		}
		return f.tables[n]
	}
	for _, b := range blocks {
		to := m.take(group)
		f.block[b.k] = to
		m.l[to] = sealed(api.KindDir, b.p)
		switch w := wayOf(b.k); len(w) {
		case 1:
			f.x.Direct[b.k] = uint16(to)
		case 2:
			m.lead(hop(0), w[1], to)
			f.x.Single = uint16(hop(0))
		case 3:
			m.lead(hop(2+w[1]), w[2], to)
			m.lead(hop(1), w[1], hop(2+w[1]))
			f.x.Double = uint16(hop(1))
		}
	}
	m.set(ino, f.x)
	return f
}

// fulls is so many blocks that are full.
func fulls(n int) []held {
	var l []held
	for k := range n {
		l = append(l, held{k, full(k)})
	}
	return l
}

// rig is a volume, and what it is made of.
type rig struct {
	t *testing.T
	g api.Geom
	s *power.Supply
	d *disk.Disk
	w *nvram.Words
	v *vol.Vol
}

// fresh is a volume of these sectors, with words that are right and say none.
func fresh(t *testing.T, size int, m *image) *rig {
	t.Helper()
	r := &rig{t: t, g: m.g, s: power.New()}
	r.d, _ = disk.New(len(m.l), r.s)
	r.d.Load(m.l)
	r.w = nvram.New(r.s)
	r.w.Clear()
	v, e := vol.New(r.d, r.w, size)
	if e != api.OK {
		t.Fatalf("New: %v", e)
	}
	r.v = v
	return r
}

// same holds two answers against each other (an empty list is as none).
func (r *rig) same(what string, got, want any) {
	r.t.Helper()
	if g, w := fmt.Sprint(got), fmt.Sprint(want); g != w {
		r.t.Errorf("%s: %s, want %s", what, g, w)
	}
}

// inode is an inode now, by its bytes in its sector.
func (r *rig) inode(ino int) api.Inode {
	r.t.Helper()
	sector, off, _ := at(r.g, ino)
	p, e := r.v.Load(sector, api.KindInode)
	r.same("the inode's sector", e, api.OK)
	return inodeOf(p[off : off+18])
}

// has is a List that is OK.
func (r *rig) has(ino int, want ...api.Entry) {
	r.t.Helper()
	l, f := dir.List(r.v, ino)
	r.same(fmt.Sprint("List of ", ino), []any{l, f}, []any{want, api.OK})
}

// lists is a List that is refused so.
func (r *rig) lists(ino int, e api.Errno) {
	r.t.Helper()
	l, f := dir.List(r.v, ino)
	r.same(fmt.Sprint("List of ", ino), []any{l == nil, f}, []any{true, e})
}

func (r *rig) finds(ino int, name string, want int, e api.Errno) {
	r.t.Helper()
	n, f := dir.Find(r.v, ino, name)
	r.same(fmt.Sprintf("Find of %d, %q", ino, name), []any{n, f}, []any{want, e})
}

func (r *rig) costs(ino, want int) {
	r.t.Helper()
	r.same(fmt.Sprint("Cost of ", ino), dir.Cost(r.v, ino), want)
}

func (r *rig) losses(ino int, want ...int) {
	r.t.Helper()
	r.same(fmt.Sprint("Losses of ", ino), dir.Losses(r.v, ino), want)
}

// adds is an Add that answers so.
func (r *rig) adds(ino int, x api.Entry, id int, e api.Errno, needs ...int) {
	r.t.Helper()
	n, f := dir.Add(r.v, ino, x, needs...)
	r.same(fmt.Sprint("Add to ", ino, x, needs), []any{n, f}, []any{id, e})
}

func (r *rig) takes(ino int, name string, id int, e api.Errno, needs ...int) {
	r.t.Helper()
	n, f := dir.Take(r.v, ino, name, needs...)
	r.same(fmt.Sprintf("Take from %d, %q, %d", ino, name, needs), []any{n, f}, []any{id, e})
}

func (r *rig) turns(ino int, name string, to, id int, e api.Errno, needs ...int) {
	r.t.Helper()
	n, f := dir.Turn(r.v, ino, name, to, needs...)
	r.same(fmt.Sprintf("Turn of %d, %q, %d, %d", ino, name, to, needs), []any{n, f}, []any{id, e})
}

// patch is a patch of the volume's that is not refused.
func (r *rig) patch(at, off, kind int, data ...byte) int {
	r.t.Helper()
	id, e := r.v.Patch(api.Patch{At: at, Off: off, Data: data, Kind: kind})
	r.same("Patch", e, api.OK)
	return id
}

func (r *rig) says(groups uint32, right bool) {
	r.t.Helper()
	g, is := r.w.Says()
	r.same("the words", []any{g, is}, []any{groups, right})
}

func (r *rig) syncs() {
	r.t.Helper()
	r.same("Sync", r.v.Sync(), api.OK)
}

func (r *rig) settles(ids ...int) {
	r.t.Helper()
	r.same("Settle", r.v.Settle(ids...), api.OK)
}

// free is how many sectors of data are free.
func (r *rig) free() int {
	n, _ := alloc.Avail(r.v)
	return n
}

// told is all of a patch in the graph.
func (r *rig) told(id int) string {
	p, e := r.v.Graph().Get(id)
	return fmt.Sprint(p.Id, p.At, p.Off, p.Data, p.Kind, p.Needs, p.Owner, p.Child, p.Written, e)
}

// is holds a patch in the graph against what it should be.
func (r *rig) is(id int, p api.Patch) {
	r.t.Helper()
	r.same(fmt.Sprint("patch ", id), r.told(id), fmt.Sprint(id, p.At, p.Off, p.Data, p.Kind, p.Needs, p.Owner, p.Child, false, api.OK))
}

// are holds all patches from number first on against what they should be: these, and no others.
func (r *rig) are(first int, l ...api.Patch) {
	r.t.Helper()
	for i, p := range l {
		r.is(first+i, p)
	}
	r.same("the next number", r.next(), first+len(l))
}

// padded is bytes with noughts behind, so many in all.
func padded(b []byte, n int) []byte {
	return append(append([]byte{}, b...), make([]byte, n-len(b))...)
}

// graph is all patches, and how many frees there are.
func (r *rig) graph() string {
	var l []any
	for _, id := range r.v.Graph().All() {
		l = append(l, r.told(id), "\n")
	}
	p, f := r.v.Pending()
	return fmt.Sprint(append(l, p, f)...)
}

// state is all that can be told of the volume and of what it is made of.
func (r *rig) state() string {
	l := []any{r.s.Used(), r.s.Gone(), r.d.Writes(), r.d.Image()}
	for at := range r.d.Len() {
		b, e := r.v.Now(at)
		l = append(l, b, e, r.d.Waits(at))
	}
	for i := range 3 {
		x, _ := r.w.Get(i)
		l = append(l, x)
	}
	return fmt.Sprint(append(l, r.graph())...)
}

// leaves holds the volume ahead of some calls against what they leave; the next patch's number among it.
func (r *rig) leaves(do func()) {
	r.t.Helper()
	was, next := r.state(), r.next()
	do()
	if r.state() != was || r.next() != next {
		r.t.Error("the volume is changed")
	}
}

// next is the number that the next patch will get.
func (r *rig) next() int {
	id, _ := r.v.Graph().Add(api.Patch{Data: []byte{0}})
	return id
}

// wrong is sectors that are not right of that kind.
func wrong(kind int) []api.Block {
	p := names(ent(3, "abc"), ent(4, "d"))
	if kind == api.KindPtrs {
		p = table(map[int]int{0: 7, 1: 8, 26: 9})
	}
	l := []api.Block{{}, {1}, {54: byte(kind), 55: byte(255 - kind)}}
	for _, i := range []int{0, 53, 54, 55, 56, 63} {
		b := sealed(kind, p)
		b[i] ^= 1
		l = append(l, b)
	}
	for k := api.KindSuper; k <= api.KindDir; k++ {
		if k != kind {
			l = append(l, sealed(k, p))
		}
	}
	return l
}

// The patches that the chapters speak of.

// slot is bytes of a slot of a directory's block, from some byte on.
func slot(sector, i, from int, data []byte, ino, child int, needs ...int) api.Patch {
	return api.Patch{At: sector, Off: 13*i + from, Data: data, Kind: api.KindDir, Needs: needs, Owner: ino, Child: child}
}

// added is the patch of an entry, lost that of 13 noughts, turned that of another inode's number.
func added(sector, i int, e api.Entry, ino int, needs ...int) api.Patch {
	return slot(sector, i, 0, bytes13(e), ino, e.Ino, needs...)
}

func lost(sector, i, ino, child int, needs ...int) api.Patch {
	return slot(sector, i, 0, make([]byte, 13), ino, child, needs...)
}

func turned(sector, i, to, ino int, needs ...int) api.Patch {
	return slot(sector, i, 0, two(to), ino, to, needs...)
}

// content is that of a block that is hung in.
func content(sector int, e api.Entry, ino int, needs ...int) api.Patch {
	return slot(sector, 0, 0, padded(bytes13(e), 54), ino, e.Ino, needs...)
}

// bit is the patch that takes a sector: a byte of the maps that has then this value.
func bit(g api.Geom, group, off int, x byte) api.Patch {
	return api.Patch{At: mapsAt(g, group), Off: off, Data: []byte{x}, Kind: api.KindMaps}
}

// set is the patch of an inode's bytes from one on.
func set(g api.Geom, ino, from int, data []byte, child int, needs ...int) api.Patch {
	sector, off, _ := at(g, ino)
	return api.Patch{At: sector, Off: off + from, Data: data, Kind: api.KindInode, Needs: needs, Owner: ino, Child: child}
}

// size is the patch of an inode's size.
func size(g api.Geom, ino, n int, needs ...int) api.Patch {
	return set(g, ino, 2, four(n), 0, needs...)
}

// leads is the patch that sets a pointer in a sector of pointers.
func leads(sector, place, to, ino, child int, needs ...int) api.Patch {
	return api.Patch{At: sector, Off: 2 * place, Data: two(to), Kind: api.KindPtrs, Needs: needs, Owner: ino, Child: child}
}

// hop is the content of a sector of pointers that has one pointer.
func hop(sector, place, to, ino, child int, needs ...int) api.Patch {
	p := table(map[int]int{place: to})
	return api.Patch{At: sector, Data: p[:], Kind: api.KindPtrs, Needs: needs, Owner: ino, Child: child}
}
