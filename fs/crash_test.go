package fs_test

import (
	"math/rand"
	"slices"
	"testing"

	"scupper/api"
	"scupper/dir"
	"scupper/seal"
	"scupper/tree"
)

// entry is a name of a directory, and the inode to which it leads; place a byte that a node had somewhere; version a node, as it was.
type entry struct {
	dir  int
	name string
	ino  int
}

type place struct {
	node, off int
	b         byte
}

type version struct {
	node int
	n    tree.Node
}

// thing is a node now, and its inode, by one of its names.
type thing struct {
	version
	path string
	from entry
}

// things is all that can be come to, the root first.
func (w *twin) things() []thing {
	root, _ := w.x.Node(1)
	l := []thing{{version: version{1, root}, from: entry{ino: 1}}}
	for i := 0; i < len(l); i++ {
		up := l[i]
		if up.n.Kind == isFile {
			continue
		}
		names, _ := dir.List(w.v, up.from.ino)
		for _, e := range names {
			at := slices.IndexFunc(up.n.Names, func(x api.Entry) bool { return x.Name == e.Name })
			node := up.n.Names[at].Ino
			n, _ := w.x.Node(node)
			l = append(l, thing{version{node, n}, up.path + "/" + e.Name, entry{up.from.ino, e.Name, e.Ino}})
		}
	}
	return l
}

// past is what was since the last sync; but had is what was from the beginning on.
type past struct {
	names map[entry]struct{} // all that were
	nodes map[int][]int      // those that an inode was
	there map[string]int     // paths that led to the same inode all the time
	kept  map[string]version // files that are as they were when they were settled
	named map[int]thing      // nodes, of which no name was lost, but by a rename of theirs
	had   map[place]struct{}
}

// begin is the past of what is just settled.
func begin(l []thing, had map[place]struct{}) *past {
	p := &past{map[entry]struct{}{}, map[int][]int{}, map[string]int{}, map[string]version{}, map[int]thing{}, had}
	for _, x := range l {
		p.there[x.path] = x.from.ino
		p.named[x.node] = x
	}
	p.keep(l, 0)
	p.pass(l)
	return p
}

// keep tells that a file is settled, or all (0).
func (p *past) keep(l []thing, node int) {
	for _, x := range l {
		if x.n.Kind == isFile && (node == 0 || node == x.node) {
			p.kept[x.path] = x.version
		}
	}
}

// pass adds what is now to the past.
func (p *past) pass(l []thing) {
	now, nodes := map[string]thing{}, map[int]thing{}
	for _, x := range l {
		now[x.path], nodes[x.node] = x, x
		p.names[x.from] = struct{}{}
		if !slices.Contains(p.nodes[x.from.ino], x.node) {
			p.nodes[x.from.ino] = append(p.nodes[x.from.ino], x.node)
		}
		p.has(x.version)
	}
	for path, ino := range p.there {
		if now[path].from.ino != ino {
			delete(p.there, path)
		}
	}
	for path, was := range p.kept {
		if x := now[path]; x.node != was.node || string(x.n.Data) != string(was.n.Data) {
			delete(p.kept, path)
		}
	}
	for node, was := range p.named {
		if x := nodes[node]; x.n.Links < was.n.Links {
			delete(p.named, node)
		} else {
			p.named[node] = x
		}
	}
}

// has tells which bytes a node has.
func (p *past) has(x version) {
	for off, b := range x.n.Data {
		p.had[place{x.node, off, b}] = struct{}{}
	}
}

// remains is what a crash leaves: the sectors, what is found there, and the groups in which something may be wrong.
type remains struct {
	*image
	t      *testing.T
	groups uint32
	claims map[int]int
	inodes map[int]api.Inode
	blocks map[int]map[int]int // of each inode, by k
	paths  map[string]int
	names  map[entry]int
}

// wrong tells that something is to be mended in that sector's group.
func (m *remains) wrong(sector int, what string, of any) {
	m.t.Helper()
	if group := (sector - 2) / (2 + m.g.Inodes + m.g.Data); m.groups>>group&1 == 0 {
		m.t.Errorf("%s %v in group %d, which is not marked", what, of, group)
	}
}

// claim is a pointer of an inode's that leads to a sector of that kind: the load.
func (m *remains) claim(ino, to, kind int) api.Load {
	m.t.Helper()
	group, i := (to-2)/(2+m.g.Inodes+m.g.Data), (to-2)%(2+m.g.Inodes+m.g.Data)-2-m.g.Inodes
	if was, is := m.claims[to]; is || to < 2 || to >= len(m.l) || i < 0 || !m.isMarked(group, i) {
		m.t.Errorf("sector %d of inode %d: it was that of %d, or is no one's", to, ino, was)
		return api.Load{}
	}
	m.claims[to] = ino
	p, _, e := seal.Get(kind, m.l[to])
	if kind != api.KindRaw && e != api.OK {
		m.t.Errorf("sector %d of inode %d is not right", to, ino)
	}
	return p
}

// claimAll claims all that an inode leads to.
func (m *remains) claimAll(ino int, x api.Inode) {
	m.t.Helper()
	kind := api.KindRaw
	if x.Kind == isDir {
		kind = api.KindDir
	}
	l := map[int]int{}
	m.blocks[ino] = l
	block := func(k, to int) {
		if to != 0 {
			l[k] = to
			m.claim(ino, to, kind)
		}
		if sector, _, _ := at(m.g, ino); to != 0 && k*64 >= int(x.Size) {
			m.wrong(sector, "a block that is not needed of", ino)
			m.wrong(to, "a block that is not needed of", ino)
		}
	}
	table := func(to int, each func(i, to int)) {
		if to == 0 {
			return
		}
		p := m.claim(ino, to, api.KindPtrs)
		for i := range 27 {
			each(i, int(p[2*i])+int(p[2*i+1])<<8)
		}
	}
	for k, to := range x.Direct {
		block(k, int(to))
	}
	table(int(x.Single), func(i, to int) { block(4+i, to) })
	table(int(x.Double), func(i, to int) {
		table(to, func(j, to int) { block(31+27*i+j, to) })
	})
}

// find finds all that there is.
func (m *remains) find() {
	m.t.Helper()
	for ino := 1; ino <= 3*m.g.Groups*m.g.Inodes; ino++ {
		sector, off, group := at(m.g, ino)
		p, _, e := seal.Get(api.KindInode, m.l[sector])
		x := inodeOf(p[off : off+18])
		taken := m.isMarked(group, 128+(ino-1)%(3*m.g.Inodes))
		if e != api.OK || x.Kind > 2 || x.Kind != 0 && !taken || x.Kind == 0 && x != (api.Inode{}) {
			m.t.Errorf("inode %d: %+v, %v, taken: %v", ino, x, e, taken)
		}
		if x.Kind != 0 {
			m.inodes[ino] = x
			m.claimAll(ino, x)
		} else if taken {
			m.wrong(sector, "the place of inode", ino)
		}
	}
	for group := range m.g.Groups {
		for i := range m.g.Data {
			if to := dataAt(m.g, group, i); m.isMarked(group, i) && m.claims[to] == 0 {
				m.wrong(to, "the place of", to)
			}
		}
	}
	m.down()
}

// down goes down from the root.
func (m *remains) down() {
	m.t.Helper()
	m.paths[""] = 1
	for l := []string{""}; len(l) > 0; l = l[1:] {
		up := m.paths[l[0]]
		for k := range int(m.inodes[up].Size) / 64 {
			to := m.blocks[up][k]
			if m.inodes[up].Kind != isDir || to == 0 {
				continue
			}
			p, _, _ := seal.Get(api.KindDir, m.l[to])
			for i := range 4 {
				s := p[13*i : 13*i+13]
				if s[2] == 0 {
					continue
				}
				e := entry{up, string(s[3 : 3+s[2]]), int(s[0]) + int(s[1])<<8}
				path := l[0] + "/" + e.name
				if _, is := m.paths[path]; is || m.inodes[e.ino].Kind == 0 || len(path) > 100 {
					m.t.Errorf("%s leads to %d: twice, or to none", path, e.ino)
					continue
				}
				m.paths[path] = e.ino
				m.names[e] = to
				l = append(l, path)
			}
		}
	}
}

// links holds how many links there are against the names.
func (m *remains) links() {
	m.t.Helper()
	count := map[int]int{1: 1}
	for e := range m.names {
		count[e.ino]++
	}
	for ino, x := range m.inodes {
		sector, _, _ := at(m.g, ino)
		if count[ino] > int(x.Links) {
			m.t.Errorf("inode %d has %d names, %d links", ino, count[ino], x.Links)
		} else if count[ino] < int(x.Links) || x.Links == 0 {
			m.wrong(sector, "the links of", ino)
		}
		if x.Kind == isDir && count[ino] > 1 {
			for e, to := range m.names {
				if e.ino == ino {
					m.wrong(to, "a name too many", e)
				}
			}
		}
	}
}

// bytes is those of a file.
func (m *remains) bytes(ino int) []byte {
	b := make([]byte, m.inodes[ino].Size)
	for k, to := range m.blocks[ino] {
		if k*64 < len(b) {
			copy(b[k*64:], m.l[to][:])
		}
	}
	return b
}

// after holds what is left against what was.
func (m *remains) after(p *past) {
	m.t.Helper()
	named := map[int]struct{}{}
	for e := range m.names {
		if _, was := p.names[e]; !was {
			m.t.Errorf("%+v is there, and was not", e)
		}
		named[e.ino] = struct{}{}
		if m.inodes[e.ino].Kind == isFile {
			m.stale(p, e.ino)
		}
	}
	for path, ino := range p.there {
		if m.paths[path] != ino {
			m.t.Errorf("%s leads to %d, not %d", path, m.paths[path], ino)
		}
	}
	for path, x := range p.kept {
		if b := m.bytes(m.paths[path]); string(b) != string(x.n.Data) {
			m.t.Errorf("%s has %d bytes, not those %d", path, len(b), len(x.n.Data))
		}
	}
	for _, x := range p.named {
		if _, is := named[x.from.ino]; !is && x.from.ino != 1 {
			m.t.Errorf("%+v has no name any more", x)
		}
	}
}

// stale looks for bytes that the file never had.
func (m *remains) stale(p *past, ino int) {
	m.t.Helper()
	own := func(node int) bool {
		for off, b := range m.bytes(ino) {
			if _, had := p.had[place{node, off, b}]; b != 0 && !had {
				return false
			}
		}
		return true
	}
	if !slices.ContainsFunc(p.nodes[ino], own) {
		m.t.Errorf("inode %d has bytes that it never had", ino)
	}
}

// likely is mostly something that can be done, and at times a sync.
func likely(d *rand.Rand) api.Op {
	o := throw(d)
	switch d.Intn(12) {
	case 0, 1:
		o.Kind = api.OpRename
	case 2:
		o.Kind = api.OpMkdir
	case 3:
		o.Kind = api.OpLink
	case 4:
		o.Kind, o.Flags = api.OpOpen, 7
	case 5:
		o.Kind = api.OpWrite
	case 6:
		if d.Intn(4) == 0 {
			o.Kind = api.OpSync
		}
	}
	return o
}

// lives does such things till the power is gone, or so many: the past.
func (w *twin) lives(d *rand.Rand, times int) *past {
	w.t.Helper()
	p := begin(w.things(), map[place]struct{}{})
	for range times {
		o := likely(d)
		opened, _ := w.x.Open().Get(o.Fd)
		a := w.f.Do(o)
		if w.s.Gone() {
			break // what was not told to be done may be done in part
		}
		if a.Err != api.OK {
			continue
		}
		w.x.Do(o)
		l := w.things()
		p.pass(l)
		for fd := range maxFds { // among these are such as have no name any more
			if opened, e := w.x.Open().Get(fd); e == api.OK {
				n, _ := w.x.Node(opened.Ino)
				p.has(version{opened.Ino, n})
			}
		}
		switch o.Kind {
		case api.OpSync:
			p = begin(l, p.had)
		case api.OpFsync:
			p.keep(l, opened.Ino)
		}
	}
	return p
}

// 26.1, P2, and what crashes may leave: wherever the power goes, and whatever waits on the disk comes about: each name was there since the last sync, and leads to an inode that is right; each sector is one's own; what is wrong lies in groups that are marked; no byte is another file's; what was settled, and what always was, is there; and who was renamed has a name.
func TestAnyCrash(t *testing.T) {
	shapes := []api.Geom{three, one, {Groups: 8, Inodes: 1, Data: 12}, great}
	for seed := range int64(300) {
		d := rand.New(rand.NewSource(seed))
		g := shapes[seed%4]
		w := newTwin(t, 1+d.Intn(30), blank(g))
		w.s.Limit(20 + d.Intn(600))
		p := w.lives(d, 150)
		groups, right := w.w.Says()
		if !right {
			groups = 255
		}
		keep := make([]int, w.d.Len())
		for i := range keep {
			keep[i] = d.Intn(1 + d.Intn(4))
		}
		w.d.Crash(keep)
		m := &remains{&image{g, w.d.Image()}, t, groups, map[int]int{}, map[int]api.Inode{}, map[int]map[int]int{}, map[string]int{}, map[entry]int{}}
		m.find()
		m.links()
		m.after(p)
		if t.Failed() {
			t.Fatal("seed ", seed, ", shape ", g)
		}
	}
}
