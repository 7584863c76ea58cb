package fs

import (
	"slices"

	"scupper/alloc"
	"scupper/api"
	"scupper/bmap"
	"scupper/dir"
	"scupper/dirent"
	"scupper/geom"
	"scupper/itab"
	"scupper/maps"
	"scupper/ptrs"
)

// adding is what it takes that a name is added to a directory.
func (f *FS) adding(in int) (deed, api.Errno) {
	x, e := itab.Load(f.Vol(), in)
	if e != api.OK {
		return deed{}, e
	}
	at, e := f.block(x, func(p api.Load) bool { return dirent.Room(p) >= 0 })
	if e != api.OK {
		return deed{}, e
	}
	if at != 0 {
		return deed{patches: true, marks: []int{at}}, api.OK
	}
	// Where no slot is empty a block comes behind the others.
	w, e := f.pointer(in, x, ptrs.Blocks(int(x.Size)))
	if e != api.OK {
		return deed{}, e
	}
	if w.to != 0 {
		return deed{}, api.ErrArg // one is there already, behind the size, and layer 22 adds nothing then
	}
	taking := append([]bool{false}, slices.Repeat([]bool{true}, w.missing)...)
	l, e := f.next(in, taking)
	if e != api.OK {
		return deed{}, e
	}
	return deed{sectors: len(taking), patches: true, marks: append(l, w.at, f.sector(in))}, api.OK
}

// losing is the sectors whose groups are marked when an inode loses a name.
func (f *FS) losing(ino int) ([]int, api.Errno) {
	x, e := itab.Load(f.Vol(), ino)
	if e != api.OK {
		return nil, e
	}
	l := []int{f.sector(ino)}
	if fewer(x) > 0 {
		return l, api.OK
	}
	if x.Kind == api.InodeFree {
		return nil, api.ErrArg // layer 21 drops no such inode
	}
	if e := f.tables(x); e != api.OK {
		return nil, e
	}
	return append(l, f.held(x)...), api.OK
}

// isUnread is whether that error tells of a sector that it can't be read at all. By one that is not right, or that there is not, nothing is there; by such a one nobody knows what is.
func isUnread(e api.Errno) bool { return e == api.ErrDown || e == api.ErrFull }

// tables tells why one of an inode's sectors of pointers can't be read at all.
func (f *FS) tables(x api.Inode) api.Errno {
	for _, at := range bmap.Tables(f.Vol(), x) {
		if _, e := f.Load(at, api.KindPtrs); isUnread(e) {
			return e
		}
	}
	return api.OK
}

// held is the sectors of an inode's blocks, and those of pointers.
func (f *FS) held(x api.Inode) []int {
	var l []int
	for _, b := range bmap.Blocks(f.Vol(), x) {
		l = append(l, b.Sector)
	}
	return append(l, bmap.Tables(f.Vol(), x)...)
}

// entry is the sector in which the name at a spot lies.
func (f *FS) entry(at spot) (int, api.Errno) {
	x, e := itab.Load(f.Vol(), at.dir)
	if e != api.OK {
		return 0, e
	}
	return f.block(x, func(p api.Load) bool { return dirent.Find(p, at.name) >= 0 })
}

// block is the sector of a directory's first block that has what is told; 0 if none has.
func (f *FS) block(x api.Inode, has func(api.Load) bool) (int, api.Errno) {
	for k := range ptrs.Blocks(int(x.Size)) {
		at, e := bmap.Find(f.Vol(), x, k)
		if e != api.OK {
			return 0, e
		}
		if at == 0 {
			continue
		}
		p, e := f.Load(at, api.KindDir)
		if isUnread(e) {
			return 0, e
		}
		if e == api.OK && has(p) {
			return at, api.OK
		}
	}
	return 0, api.OK
}

// end is how far pointers lead on the way to a block.
type end struct {
	at      int // the sector in which the pointer to the block lies, or will be set where some are missing ahead of it
	to      int // the block's sector; 0 if there is none
	missing int // how many sectors of pointers are
}

// pointer is how far pointers lead on the way to block k.
func (f *FS) pointer(ino int, x api.Inode, k int) (end, api.Errno) {
	w, e := ptrs.To(k)
	if e != api.OK {
		return end{}, e
	}
	at, to := f.sector(ino), x.Double
	switch w.Level {
	case 0:
		to = x.Direct[w.First]
	case 1:
		to = x.Single
	}
	missing := w.Level
	for _, place := range []int{w.First, w.Second}[:w.Level] {
		if to == 0 {
			break
		}
		at = int(to)
		p, e := f.Load(at, api.KindPtrs)
		if e == api.ErrArg {
			return end{}, api.ErrSeal // one that there is not is not right either
		}
		if e != api.OK {
			return end{}, e
		}
		to, _ = ptrs.At(p, place) // the place is one
		missing--
	}
	return end{at: at, to: int(to), missing: missing}, api.OK
}

// table is a sector of pointers that is missing, told by how many lie ahead of it on the way, and, of one behind Double, at which place.
type table struct{ level, depth, place int }

// taking tells of each sector that is taken when bytes between two places of a file are written, in order, whether it will be one of pointers.
func (f *FS) taking(ino int, x api.Inode, from, to int) ([]bool, api.Errno) {
	var l []bool
	hung := map[table]struct{}{}
	for k := from / api.Sector; from < to && k*api.Sector < to; k++ {
		w, e := f.pointer(ino, x, k)
		if e != api.OK {
			return nil, e
		}
		if w.to != 0 {
			continue
		}
		l = append(l, false)
		way, _ := ptrs.To(k) // the block is one
		for depth := way.Level - w.missing; depth < way.Level; depth++ {
			// What is hung in for one block is there for the next ones.
			t := table{level: way.Level, depth: depth, place: depth * way.First}
			if _, is := hung[t]; !is {
				hung[t] = struct{}{}
				l = append(l, true)
			}
		}
	}
	return l, api.OK
}

// next is the sectors that will be taken for an inode, fewer where fewer are free. Those that will be of pointers are read here, since they may be while it is done.
func (f *FS) next(ino int, taking []bool) ([]int, api.Errno) {
	g := f.Geom()
	var l []int
	for ahead := range g.Groups {
		group := (alloc.Group(f.Vol(), ino) + ahead) % g.Groups
		if len(l) == len(taking) {
			break // maps that nobody asks for may be such as can't be read
		}
		m, e := f.maps(group)
		if e != api.OK {
			return nil, e
		}
		for i := maps.First(m, g, api.KindRaw, 0); i >= 0 && len(l) < len(taking); i = maps.First(m, g, api.KindRaw, i+1) {
			sector, _ := geom.Data(g, group, i) // what is free is one of the group's
			l = append(l, sector)
		}
	}
	for i, sector := range l {
		if !taking[i] {
			continue
		}
		if _, e := f.Now(sector); e != api.OK {
			return nil, e
		}
	}
	return l, api.OK
}

// source is the sector of the maps by which an inode will be taken, from a group on; none, where none is free.
func (f *FS) source(group int) ([]int, api.Errno) {
	g := f.Geom()
	for ahead := range g.Groups {
		from := (group + ahead) % g.Groups
		m, e := f.maps(from)
		if e != api.OK {
			return nil, e
		}
		if _, inodes := maps.Free(m, g); inodes > 0 {
			at, _ := geom.Maps(g, from) // the group is one
			return []int{at}, api.OK
		}
	}
	return nil, api.OK
}

// avail is how many sectors of data, and how many inodes, are free in all groups.
func (f *FS) avail() (int, int, api.Errno) {
	g := f.Geom()
	sectors, inodes := 0, 0
	for group := range g.Groups {
		m, e := f.maps(group)
		if e != api.OK {
			return 0, 0, e
		}
		data, nodes := maps.Free(m, g)
		sectors, inodes = sectors+data, inodes+nodes
	}
	return sectors, inodes, api.OK
}

// maps is what is taken of a group: all of it, by maps that are not right.
func (f *FS) maps(group int) (api.Load, api.Errno) {
	at, _ := geom.Maps(f.Geom(), group) // the group is one
	m, e := f.Load(at, api.KindMaps)
	if e == api.ErrSeal {
		for i := range m {
			m[i] = 0xff
		}
		return m, api.OK
	}
	return m, e
}

// sector is the inode's.
func (f *FS) sector(ino int) int {
	s, _ := geom.Inode(f.Geom(), ino) // 0, whose group is none, if there is no such inode
	return s.Sector
}

// name is one of a directory, and the inode that it leads to.
type name struct{ dir, ino int }

// above is the directories on all ways from the root to a name of the inode, rising.
func (f *FS) above(ino int) ([]int, api.Errno) {
	names, e := f.names()
	if e != api.OK {
		return nil, e
	}
	var l []int
	leads := func(to int) bool { return to == ino || slices.Contains(l, to) }
	// What lies further down was told later, so that mostly one time backward finds all.
	for more := true; more; {
		more = false
		for _, n := range slices.Backward(names) {
			if leads(n.ino) && !slices.Contains(l, n.dir) {
				l = append(l, n.dir)
				more = true
			}
		}
	}
	slices.Sort(l)
	return l, api.OK
}

// names is all names to which there is a way from the root, those of a directory behind the one that leads to it.
func (f *FS) names() ([]name, api.Errno) {
	inos := []int{api.Root}
	reached := map[int]struct{}{api.Root: {}}
	var names []name
	for i := 0; i < len(inos); i++ {
		l, e := dir.List(f.Vol(), inos[i])
		if isUnread(e) {
			return nil, e
		}
		for _, entry := range l {
			names = append(names, name{dir: inos[i], ino: entry.Ino})
			if _, is := reached[entry.Ino]; !is {
				reached[entry.Ino] = struct{}{}
				inos = append(inos, entry.Ino) // what is no directory has no names
			}
		}
	}
	return names, api.OK
}
