package fs

import (
	"slices"

	"scupper/alloc"
	"scupper/api"
	"scupper/bmap"
	"scupper/dir"
	"scupper/dirent"
	"scupper/geom"
	"scupper/itab"
	"scupper/maps"
	"scupper/ptrs"
)

// adding is what it takes that a name is added to a directory.
func (f *FS) adding(in int) (deed, api.Errno) {
	x, e := itab.Load(f.Vol(), in)
	if e != api.OK {
		return deed{}, e
	}
	if at := f.block(x, func(p api.Load) bool { return dirent.Room(p) >= 0 }); at != 0 {
		return deed{marks: []int{at}}, api.OK
	}
	// Where no slot is empty a block comes behind the others.
	at, to, e := f.pointer(in, x, ptrs.Blocks(int(x.Size)))
	if e != api.OK {
		return deed{}, e
	}
	if to != 0 {
		return deed{}, api.ErrArg // one is there already, behind the size, and layer 22 adds nothing then
	}
	n := dir.Cost(f.Vol(), in)
	l, e := f.sources(alloc.Group(f.Vol(), in), n, 0)
	if e != api.OK {
		return deed{}, e
	}
	return deed{sectors: n, marks: append(l, at, f.sector(in))}, api.OK
}

// losing is the sectors whose groups are marked when an inode loses a name.
func (f *FS) losing(ino int) ([]int, api.Errno) {
	x, e := itab.Load(f.Vol(), ino)
	if e != api.OK {
		return nil, e
	}
	l := []int{f.sector(ino)}
	if fewer(x) > 0 {
		return l, api.OK
	}
	if x.Kind == api.InodeFree {
		return nil, api.ErrArg // layer 21 drops no such inode
	}
	for _, at := range bmap.Tables(f.Vol(), x) {
		// By one that can't be read nobody knows what else goes; one that is not right leads to nothing.
		if _, e := f.Load(at, api.KindPtrs); e == api.ErrDown {
			return nil, e
		}
	}
	return append(l, f.held(x)...), api.OK
}

// held is the sectors of an inode's blocks, and those of pointers.
func (f *FS) held(x api.Inode) []int {
	var l []int
	for _, b := range bmap.Blocks(f.Vol(), x) {
		l = append(l, b.Sector)
	}
	return append(l, bmap.Tables(f.Vol(), x)...)
}

// entry is the sector in which the name at a spot lies.
func (f *FS) entry(at spot) int {
	x, _ := itab.Load(f.Vol(), at.dir) // the name was found there
	return f.block(x, func(p api.Load) bool { return dirent.Find(p, at.name) >= 0 })
}

// block is the sector of a directory's first block that has what is told; 0 if none has.
func (f *FS) block(x api.Inode, has func(api.Load) bool) int {
	for _, b := range bmap.Blocks(f.Vol(), x) {
		if b.K >= ptrs.Blocks(int(x.Size)) {
			break
		}
		if p, e := f.Load(b.Sector, api.KindDir); e == api.OK && has(p) {
			return b.Sector
		}
	}
	return 0
}

// pointer is the sector in which the pointer to block k lies, or will be set where some are missing ahead of it, and the block's sector (0: none).
func (f *FS) pointer(ino int, x api.Inode, k int) (int, int, api.Errno) {
	w, e := ptrs.To(k)
	if e != api.OK {
		return 0, 0, e
	}
	at, to := f.sector(ino), x.Double
	switch w.Level {
	case 0:
		to = x.Direct[w.First]
	case 1:
		to = x.Single
	}
	for _, place := range []int{w.First, w.Second}[:w.Level] {
		if to == 0 {
			break
		}
		at = int(to)
		p, e := f.Load(at, api.KindPtrs)
		if e == api.ErrArg {
			return 0, 0, api.ErrSeal // one that there is not is not right either
		}
		if e != api.OK {
			return 0, 0, e
		}
		to, _ = ptrs.At(p, place) // the place is one
	}
	return at, int(to), api.OK
}

// sources is a sector each of the groups from which so many sectors, and inodes, are taken, from a group on. Where fewer are free it is those that there are.
func (f *FS) sources(group, sectors, inodes int) ([]int, api.Errno) {
	g := f.Geom()
	var l []int
	for ahead := 0; ahead < g.Groups && (sectors > 0 || inodes > 0); ahead++ {
		at, _ := geom.Maps(g, (group+ahead)%g.Groups)
		m, e := f.Load(at, api.KindMaps)
		if e == api.ErrSeal {
			continue // nothing is free by maps that are not right
		}
		if e != api.OK {
			return nil, e
		}
		data, nodes := maps.Free(m, g)
		if sectors > 0 && data > 0 || inodes > 0 && nodes > 0 {
			l = append(l, at)
		}
		sectors, inodes = sectors-data, inodes-nodes
	}
	return l, api.OK
}

// sector is the inode's.
func (f *FS) sector(ino int) int {
	s, _ := geom.Inode(f.Geom(), ino) // 0, whose group is none, if there is no such inode
	return s.Sector
}

// name is one of a directory, and the inode that it leads to.
type name struct{ dir, ino int }

// above is the directories on all ways from the root to a name of the inode, rising.
func (f *FS) above(ino int) ([]int, api.Errno) {
	names, e := f.names()
	if e != api.OK {
		return nil, e
	}
	var l []int
	leads := func(to int) bool { return to == ino || slices.Contains(l, to) }
	// What lies further down was told later, so that mostly one time backward finds all.
	for more := true; more; {
		more = false
		for _, n := range slices.Backward(names) {
			if leads(n.ino) && !slices.Contains(l, n.dir) {
				l = append(l, n.dir)
				more = true
			}
		}
	}
	slices.Sort(l)
	return l, api.OK
}

// names is all names to which there is a way from the root, those of a directory behind the one that leads to it.
func (f *FS) names() ([]name, api.Errno) {
	inos := []int{api.Root}
	reached := map[int]struct{}{api.Root: {}}
	var names []name
	for i := 0; i < len(inos); i++ {
		l, e := dir.List(f.Vol(), inos[i])
		if e == api.ErrDown {
			return nil, e
		}
		for _, entry := range l {
			names = append(names, name{dir: inos[i], ino: entry.Ino})
			if _, is := reached[entry.Ino]; !is {
				reached[entry.Ino] = struct{}{}
				inos = append(inos, entry.Ino) // what is no directory has no names
			}
		}
	}
	return names, api.OK
}
