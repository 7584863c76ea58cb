package fs_test

import (
	"fmt"
	"slices"
	"strings"
	"testing"

	"scupper/alloc"
	"scupper/api"
	"scupper/disk"
	"scupper/fds"
	"scupper/fs"
	"scupper/maps"
	"scupper/nvram"
	"scupper/power"
	"scupper/seal"
	"scupper/super"
	"scupper/vol"
)

// The document's numbers, written out, so that no shared slip of code and test hides.
const (
	maxDepth = 16
	maxLinks = 200
	maxSize  = 48640
	maxBytes = 4096
	maxFds   = 8

	isFile = 1
	isDir  = 2

	forRead  = 1
	forWrite = 2
	create   = 4
	only     = 8
	cutting  = 16
)

// The disk of most tests: three groups of a sector of inodes and nine of data, 38 sectors in all.
// Group 0: maps 3, inodes 1 to 3 in 4, data 5 to 13. Group 1: maps 15, inodes 4 to 6 in 16, data 17 to 25. Group 2: maps 27, inodes 7 to 9 in 28, data 29 to 37.
var three = api.Geom{Groups: 3, Inodes: 1, Data: 9}

// Others: one group of nine inodes, whose data are sectors 7 to 46; the least disk; and great ones.
var (
	one   = api.Geom{Groups: 1, Inodes: 3, Data: 40}
	least = api.Geom{Groups: 1, Inodes: 1, Data: 4}
	great = api.Geom{Groups: 3, Inodes: 8, Data: 128}
	wide  = api.Geom{Groups: 8, Inodes: 1, Data: 128}
	long  = api.Geom{Groups: 1, Inodes: 2, Data: 128}
)

// Where things lie, by chapter 6's words.
func mapsAt(g api.Geom, group int) int    { return 3 + group*(2+g.Inodes+g.Data) }
func dataAt(g api.Geom, group, i int) int { return mapsAt(g, group) + 1 + g.Inodes + i }

// at is an inode's sector, where in its load it begins, and its group.
func at(g api.Geom, ino int) (sector, off, group int) {
	n := ino - 1
	group = n / (3 * g.Inodes)
	return mapsAt(g, group) + 1 + n%(3*g.Inodes)/3, n % 3 * 18, group
}

// two is a number's two bytes, the lowest first; four its four.
func two(n int) []byte  { return []byte{byte(n), byte(n >> 8)} }
func four(n int) []byte { return append(two(n), two(n>>16)...) }

// bytesOf is an inode's bytes, by the words of chapter 10.
func bytesOf(x api.Inode) []byte {
	l := append([]byte{x.Kind, x.Links}, four(int(x.Size))...)
	for _, p := range append(x.Direct[:], x.Single, x.Double) {
		l = append(l, two(int(p))...)
	}
	return l
}

// inodeOf is the inode that has these bytes.
func inodeOf(b []byte) api.Inode {
	two := func(i int) uint16 { return uint16(b[i]) + uint16(b[i+1])<<8 }
	return api.Inode{
		Kind: b[0], Links: b[1], Size: uint32(two(2)) + uint32(two(4))<<16,
		Direct: [4]uint16{two(6), two(8), two(10), two(12)}, Single: two(14), Double: two(16),
	}
}

func ent(ino int, name string) api.Entry { return api.Entry{Ino: ino, Name: name} }

// bytes13 is a slot's bytes, by the words of chapter 12.
func bytes13(e api.Entry) []byte {
	l := append(two(e.Ino), byte(len(e.Name)))
	return padded(append(l, e.Name...), 13)
}

// names is a load of these entries, from slot 0 on; such as have no name leave their slot empty.
func names(l ...api.Entry) api.Load {
	var p api.Load
	for i, e := range l {
		if e.Name != "" {
			copy(p[13*i:], bytes13(e))
		}
	}
	return p
}

// table is a load of these pointers.
func table(to map[int]int) api.Load {
	var p api.Load
	for i, n := range to {
		copy(p[2*i:], two(n))
	}
	return p
}

// padded is bytes with noughts behind, so many in all.
func padded(b []byte, n int) []byte {
	return append(append([]byte{}, b...), make([]byte, n-len(b))...)
}

func sealed(kind int, p api.Load) api.Block {
	b, _ := seal.Put(kind, 1, p)
	return b
}

// image is a disk's sectors as they are made for a test.
type image struct {
	g api.Geom
	l []api.Block
}

// blank is a formatted disk's sectors: inode 1 is a directory without names, and nothing else is taken.
func blank(g api.Geom) *image {
	m := &image{g: g, l: make([]api.Block, 2+g.Groups*(2+g.Inodes+g.Data))}
	m.l[0], _ = super.Format(g)
	m.l[1] = m.l[0]
	for group := range g.Groups {
		h, _ := maps.Head(group)
		m.l[mapsAt(g, group)-1] = sealed(api.KindHead, h)
		m.l[mapsAt(g, group)] = sealed(api.KindMaps, api.Load{})
		for i := range g.Inodes {
			m.l[mapsAt(g, group)+1+i] = sealed(api.KindInode, api.Load{})
		}
	}
	m.set(1, api.Inode{Kind: isDir, Links: 1})
	return m
}

// set puts an inode among the sectors, and takes it.
func (m *image) set(ino int, x api.Inode) {
	sector, off, group := at(m.g, ino)
	p, _, _ := seal.Get(api.KindInode, m.l[sector])
	copy(p[off:], bytesOf(x))
	m.l[sector] = sealed(api.KindInode, p)
	m.mark(group, 128+(ino-1)%(3*m.g.Inodes))
}

// mark takes a bit of a group's maps, those of inodes behind the 128 of data.
func (m *image) mark(group, bit int) {
	p, _, _ := seal.Get(api.KindMaps, m.l[mapsAt(m.g, group)])
	p[bit/8] |= 1 << (bit % 8)
	m.l[mapsAt(m.g, group)] = sealed(api.KindMaps, p)
}

// isMarked is whether such a bit is taken.
func (m *image) isMarked(group, bit int) bool {
	p, _, _ := seal.Get(api.KindMaps, m.l[mapsAt(m.g, group)])
	return p[bit/8]>>(bit%8)&1 == 1
}

// take takes the first free sector, from a group on.
func (m *image) take(from int) int {
	for ahead := range m.g.Groups {
		group := (from + ahead) % m.g.Groups
		for i := range m.g.Data {
			if !m.isMarked(group, i) {
				m.mark(group, i)
				return dataAt(m.g, group, i)
			}
		}
	}
	panic("no sector is free")
}

// fill takes sectors, from a group on, till just so many are free.
func (m *image) fill(from, left int) *image {
	free := 0
	for group := range m.g.Groups {
		for i := range m.g.Data {
			if !m.isMarked(group, i) {
				free++
			}
		}
	}
	for ; free > left; free-- {
		m.take(from)
	}
	return m
}

// fillInodes takes all inodes but these, which are free.
func (m *image) fillInodes(free ...int) *image {
	for ino := 1; ino <= m.g.Groups*m.g.Inodes*3; ino++ {
		if !slices.Contains(free, ino) {
			_, _, group := at(m.g, ino)
			m.mark(group, 128+(ino-1)%(3*m.g.Inodes))
		}
	}
	return m
}

// lead sets a pointer of a sector of pointers.
func (m *image) lead(sector, place, to int) {
	p, _, _ := seal.Get(api.KindPtrs, m.l[sector])
	copy(p[2*place:], two(to))
	m.l[sector] = sealed(api.KindPtrs, p)
}

// pointers is a sector of pointers, taken from a group on, if there is none yet.
func (m *image) pointers(group, sector int) int {
	if sector == 0 {
		sector = m.take(group)
		m.l[sector] = sealed(api.KindPtrs, api.Load{})
	}
	return sector
}

// hang sets block k of an inode of that group, with the sectors of pointers that it needs, by the words of chapter 11.
func (m *image) hang(group int, x *api.Inode, k, to int) {
	switch {
	case k < 4:
		x.Direct[k] = uint16(to)
	case k < 31:
		x.Single = uint16(m.pointers(group, int(x.Single)))
		m.lead(int(x.Single), k-4, to)
	default:
		x.Double = uint16(m.pointers(group, int(x.Double)))
		p, _, _ := seal.Get(api.KindPtrs, m.l[x.Double])
		i := (k - 31) / 27
		inner := m.pointers(group, int(p[2*i])+int(p[2*i+1])<<8)
		m.lead(int(x.Double), i, inner)
		m.lead(inner, (k-31)%27, to)
	}
}

// dir makes inode ino a directory with these blocks, each taken from the inode's group on: where they lie.
func (m *image) dir(ino int, blocks ...api.Load) []int {
	_, _, group := at(m.g, ino)
	x := api.Inode{Kind: isDir, Links: 1, Size: uint32(64 * len(blocks))}
	var l []int
	for k, p := range blocks {
		to := m.take(group)
		m.l[to] = sealed(api.KindDir, p)
		m.hang(group, &x, k, to)
		l = append(l, to)
	}
	m.set(ino, x)
	return l
}

// rig is a file system, its volume, and what that is made of.
type rig struct {
	t *testing.T
	g api.Geom
	s *power.Supply
	d *disk.Disk
	w *nvram.Words
	v *vol.Vol
	f *fs.FS
}

// fresh is a file system on these sectors, with words that are right and say none.
func fresh(t *testing.T, size int, m *image) *rig {
	t.Helper()
	r := bare(t, size, m)
	f, e := fs.New(r.v)
	if e != api.OK {
		t.Fatalf("New: %v", e)
	}
	r.f = f
	return r
}

// bare is such a rig without the file system.
func bare(t *testing.T, size int, m *image) *rig {
	t.Helper()
	r := &rig{t: t, g: m.g, s: power.New()}
	r.d, _ = disk.New(len(m.l), r.s)
	r.d.Load(m.l)
	r.w = nvram.New(r.s)
	r.w.Clear()
	v, e := vol.New(r.d, r.w, size)
	if e != api.OK {
		t.Fatalf("the volume: %v", e)
	}
	r.v = v
	return r
}

// same holds two answers against each other (an empty list is as none).
func (r *rig) same(what string, got, want any) {
	r.t.Helper()
	if g, w := fmt.Sprint(got), fmt.Sprint(want); g != w {
		r.t.Errorf("%s: %s, want %s", what, g, w)
	}
}

// alike holds two answers against each other.
func alike(a, b api.Answer) bool {
	return a.Err == b.Err && a.N == b.N && string(a.Data) == string(b.Data) && slices.Equal(a.Names, b.Names) && a.Stat == b.Stat
}

// want wants just this answer, whatever it does.
func (r *rig) want(o api.Op, want api.Answer) {
	r.t.Helper()
	if a := r.f.Do(o); !alike(a, want) {
		r.t.Errorf("%s: %+v, want %+v", short(o), a, want)
	}
}

// done wants answers without anything but that it was done.
func (r *rig) done(ops ...api.Op) {
	r.t.Helper()
	for _, o := range ops {
		r.want(o, api.Answer{})
	}
}

// refused wants that error alone, and nothing changed that could be told.
func (r *rig) refused(o api.Op, want api.Errno) {
	r.t.Helper()
	r.leaves(func() {
		r.t.Helper()
		a := r.f.Do(o)
		if a.Err != want || a.N != 0 || a.Data != nil || a.Names != nil || a.Stat != (api.Stat{}) {
			r.t.Errorf("%s: %+v, want %v alone", short(o), a, want)
		}
	})
	if want != api.ErrSpace && want != api.ErrDown {
		r.costs(o, 0, 0)
	}
}

// costs is what an op takes.
func (r *rig) costs(o api.Op, sectors, inodes int) {
	r.t.Helper()
	n, i := r.f.Cost(o)
	r.same("Cost of "+short(o), []int{n, i}, []int{sectors, inodes})
}

// takes is an op that is done, and takes just what Cost says; with all patches that it makes.
func (r *rig) takes(o api.Op, sectors, inodes int) {
	r.t.Helper()
	r.costs(o, sectors, inodes)
	n, i := alloc.Avail(r.v)
	a := r.f.Do(o)
	m, j := alloc.Avail(r.v)
	r.same(short(o), []any{a.Err, n - m, i - j}, []any{api.OK, sectors, inodes})
}

// open opens a path, and wants the place.
func (r *rig) open(p string, flags, fd int) {
	r.t.Helper()
	r.want(opening(p, flags), api.Answer{N: fd})
}

// has makes a file of that path with those bytes, and leaves it closed.
func (r *rig) has(p, data string) {
	r.t.Helper()
	a := r.f.Do(opening(p, forWrite|create|cutting))
	b := r.f.Do(write(a.N, data))
	c := r.f.Do(closing(a.N))
	r.same("a file at "+p, []any{a.Err, b.Err, c.Err, b.N}, []any{api.OK, api.OK, api.OK, len(data)})
}

// bytes wants the bytes of the file at a path.
func (r *rig) bytes(p, want string) {
	r.t.Helper()
	a := r.f.Do(opening(p, forRead))
	b := r.f.Do(read(a.N, maxBytes))
	c := r.f.Do(closing(a.N))
	r.same("the bytes of "+p, []any{a.Err, b.Err, c.Err, fmt.Sprintf("%q", b.Data)}, []any{api.OK, api.OK, api.OK, fmt.Sprintf("%q", want)})
}

// walks is the inode of a path.
func (r *rig) walks(p string) int {
	r.t.Helper()
	ino, e := r.f.Walk(p)
	r.same("Walk of "+p, e, api.OK)
	return ino
}

// inode is an inode now, by its bytes in its sector.
func (r *rig) inode(ino int) api.Inode {
	r.t.Helper()
	sector, off, _ := at(r.g, ino)
	p, e := r.v.Load(sector, api.KindInode)
	r.same("the inode's sector", e, api.OK)
	return inodeOf(p[off : off+18])
}

// patch is a patch of the volume's that is not refused.
func (r *rig) patch(at, off, kind int, data ...byte) int {
	r.t.Helper()
	id, e := r.v.Patch(api.Patch{At: at, Off: off, Data: data, Kind: kind})
	r.same("Patch", e, api.OK)
	return id
}

func (r *rig) says(groups uint32, right bool) {
	r.t.Helper()
	g, is := r.w.Says()
	r.same("the words", []any{g, is}, []any{groups, right})
}

// clears lets the words say no group, whatever is pending.
func (r *rig) clears() {
	r.t.Helper()
	r.same("Clear", r.w.Clear(), api.OK)
}

func (r *rig) syncs() {
	r.t.Helper()
	r.same("Sync", r.v.Sync(), api.OK)
}

// free is how many sectors of data, and inodes, are free.
func (r *rig) free(sectors, inodes int) {
	r.t.Helper()
	n, i := alloc.Avail(r.v)
	r.same("free", []int{n, i}, []int{sectors, inodes})
}

func toldPatch(p api.Patch) string {
	return fmt.Sprint(p.At, p.Off, p.Data, p.Kind, p.Needs, p.Owner, p.Child)
}

// is holds a patch against what it should be.
func (r *rig) is(id int, want api.Patch) {
	r.t.Helper()
	p, e := r.v.Graph().Get(id)
	r.same(fmt.Sprint("patch ", id), fmt.Sprint(toldPatch(p), p.Written, e), fmt.Sprint(toldPatch(want), false, api.OK))
}

// are holds all patches from number first on against what they should be: these, and no others.
func (r *rig) are(first int, l ...api.Patch) {
	r.t.Helper()
	for i, want := range l {
		r.is(first+i, want)
	}
	r.same("the next number", r.next(), first+len(l))
}

// graph is all patches, and how many frees there are.
func (r *rig) graph() string {
	var l []string
	g := r.v.Graph()
	for _, id := range g.All() {
		p, _ := g.Get(id)
		l = append(l, fmt.Sprint(id, toldPatch(p), p.Written))
	}
	p, f := r.v.Pending()
	return strings.Join(append(l, fmt.Sprint(p, f)), "\n")
}

// opened is what is open, place by place.
func (r *rig) opened() string { return told(r.f.Open()) }

func told(x *fds.Table) string {
	var l []any
	for fd := range maxFds {
		f, e := x.Get(fd)
		l = append(l, f, e)
	}
	return fmt.Sprint(l...)
}

// state is all that can be told of the volume, of what it is made of, and of what is open.
func (r *rig) state() string {
	l := []any{r.s.Used(), r.s.Gone(), r.d.Writes(), r.d.Image()}
	for at := range r.d.Len() {
		b, e := r.v.Now(at)
		l = append(l, b, e, r.d.Waits(at))
	}
	for i := range 3 {
		x, _ := r.w.Get(i)
		l = append(l, x)
	}
	return fmt.Sprint(append(l, r.graph(), r.next(), r.opened())...)
}

// leaves holds all ahead of some calls against what they leave.
func (r *rig) leaves(do func()) {
	r.t.Helper()
	was := r.state()
	do()
	if r.state() != was {
		r.t.Error("something is changed")
	}
}

// next is the number that the next patch will get.
func (r *rig) next() int {
	id, _ := r.v.Graph().Add(api.Patch{Data: []byte{0}})
	return id
}

func mkdir(p string) api.Op      { return api.Op{Kind: api.OpMkdir, Path: p} }
func rmdir(p string) api.Op      { return api.Op{Kind: api.OpRmdir, Path: p} }
func unlink(p string) api.Op     { return api.Op{Kind: api.OpUnlink, Path: p} }
func link(p, to string) api.Op   { return api.Op{Kind: api.OpLink, Path: p, To: to} }
func rename(p, to string) api.Op { return api.Op{Kind: api.OpRename, Path: p, To: to} }
func cut(p string, n int) api.Op { return api.Op{Kind: api.OpCut, Path: p, N: n} }
func stat(p string) api.Op       { return api.Op{Kind: api.OpStat, Path: p} }
func list(p string) api.Op       { return api.Op{Kind: api.OpList, Path: p} }
func closing(fd int) api.Op      { return api.Op{Kind: api.OpClose, Fd: fd} }
func read(fd, n int) api.Op      { return api.Op{Kind: api.OpRead, Fd: fd, N: n} }
func seek(fd, off int) api.Op    { return api.Op{Kind: api.OpSeek, Fd: fd, Off: off} }
func fsync(fd int) api.Op        { return api.Op{Kind: api.OpFsync, Fd: fd} }
func sync() api.Op               { return api.Op{Kind: api.OpSync} }
func opening(p string, flags int) api.Op {
	return api.Op{Kind: api.OpOpen, Path: p, Flags: flags}
}
func write(fd int, data string) api.Op {
	return api.Op{Kind: api.OpWrite, Fd: fd, Data: []byte(data)}
}

// short is an op, without all of its bytes.
func short(o api.Op) string {
	n := len(o.Data)
	o.Data = o.Data[:min(n, 8)]
	return fmt.Sprintf("%+v (%d bytes)", o, n)
}

// many is /x with n names in all.
func many(n int) string { return strings.Repeat("/x", n) }

// text is so many bytes, none of them 0.
func text(n int) string {
	b := make([]byte, n)
	for i := range b {
		b[i] = byte(1 + i%251)
	}
	return string(b)
}

// The patches that the chapters speak of.

// slot is bytes of a slot of a directory's block, from some byte on.
func slot(sector, i, from int, data []byte, ino, child int, needs ...int) api.Patch {
	return api.Patch{At: sector, Off: 13*i + from, Data: data, Kind: api.KindDir, Needs: needs, Owner: ino, Child: child}
}

// added is the patch of an entry, lost that of 13 noughts, turned that of another inode's number.
func added(sector, i int, e api.Entry, ino int, needs ...int) api.Patch {
	return slot(sector, i, 0, bytes13(e), ino, e.Ino, needs...)
}

func lost(sector, i, ino, child int, needs ...int) api.Patch {
	return slot(sector, i, 0, make([]byte, 13), ino, child, needs...)
}

func turned(sector, i, to, ino int, needs ...int) api.Patch {
	return slot(sector, i, 0, two(to), ino, to, needs...)
}

// content is that of a directory's block that is hung in.
func content(sector int, e api.Entry, ino int, needs ...int) api.Patch {
	return slot(sector, 0, 0, padded(bytes13(e), 54), ino, e.Ino, needs...)
}

// bit is the patch that takes or frees something: a byte of the maps that has then this value.
func bit(g api.Geom, group, off int, x byte) api.Patch {
	return api.Patch{At: mapsAt(g, group), Off: off, Data: []byte{x}, Kind: api.KindMaps}
}

// set is the patch of an inode's bytes from one on.
func set(g api.Geom, ino, from int, data []byte, child int, needs ...int) api.Patch {
	sector, off, _ := at(g, ino)
	return api.Patch{At: sector, Off: off + from, Data: data, Kind: api.KindInode, Needs: needs, Owner: ino, Child: child}
}

// whole is the patch of all of an inode, links that of its links, size that of its size, points that of one of its blocks.
func whole(g api.Geom, ino int, x api.Inode, needs ...int) api.Patch {
	return set(g, ino, 0, bytesOf(x), 0, needs...)
}

func links(g api.Geom, ino, n int, needs ...int) api.Patch {
	return set(g, ino, 1, []byte{byte(n)}, 0, needs...)
}

func size(g api.Geom, ino, n int, needs ...int) api.Patch {
	return set(g, ino, 2, four(n), 0, needs...)
}

func points(g api.Geom, ino, k, to, child int, needs ...int) api.Patch {
	return set(g, ino, 6+2*k, two(to), child, needs...)
}
