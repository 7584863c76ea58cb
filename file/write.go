package file

import (
	"scupper/alloc"
	"scupper/api"
	"scupper/bmap"
	"scupper/inode"
	"scupper/itab"
	"scupper/ptrs"
	"scupper/vol"
)

// stretch is bytes that are to be written to a file.
type stretch struct {
	v    *vol.Vol
	ino  int
	x    api.Inode // as it was ahead of all
	off  int
	data []byte
}

// Write writes bytes to a file, from off on.
func Write(v *vol.Vol, ino, off int, data []byte) api.Errno {
	x, e := load(v, ino, mayWrite(off, len(data)))
	if e != api.OK || len(data) == 0 {
		return e
	}
	s := stretch{v: v, ino: ino, x: x, off: off, data: data}
	if e := s.prepare(); e != api.OK {
		return e
	}
	ids, e := s.lay()
	if e != api.OK || !s.grows() {
		return e
	}
	x.Size = uint32(off + len(data))
	_, e = itab.Set(v, ino, inode.Size, x, ids...)
	return e
}

// grows is whether the bytes end beyond the file's size.
func (s stretch) grows() bool { return s.off+len(s.data) > int(s.x.Size) }

// prepare tells why the bytes can't be written, and marks the groups of all that will be changed: a patch whose group can't be marked stays in the graph, and of a call that is refused nothing is to be left.
func (s stretch) prepare() api.Errno {
	due, e := takes(s.v, s.x, s.off, len(s.data))
	if e != api.OK {
		return e
	}
	if len(due) > 0 {
		if free, _ := alloc.Avail(s.v); free < len(due) {
			return api.ErrSpace
		}
	}
	changed, e := s.changed()
	if e != api.OK {
		return e
	}
	taken, e := next(s.v, s.ino, due)
	if e != api.OK {
		return e
	}
	return s.v.Mark(append(taken, changed...)...)
}

// changed is the sectors that there are, and that will be changed: the blocks', and those in which pointers will be set.
func (s stretch) changed() ([]int, api.Errno) {
	g, self := s.v.Geom(), home(s.v, s.ino)
	var l []int
	for p := range pieces(s.off, len(s.data)) {
		sector, e := bmap.Find(s.v, s.x, p.block)
		if e == api.OK && sector == 0 {
			sector, e = base(s.v, s.x, p.block, self)
		}
		if e != api.OK {
			return nil, e
		}
		if !isPatched(g, sector) {
			return nil, api.ErrArg
		}
		l = append(l, sector)
	}
	if s.grows() {
		l = append(l, self)
	}
	return l, api.OK
}

// lay lays all bytes, block by block: the patches that the size needs.
func (s stretch) lay() ([]int, api.Errno) {
	var ids []int
	for p := range pieces(s.off, len(s.data)) {
		id, e := put(s.v, s.ino, p, s.data[p.from:p.to])
		if e != api.OK {
			return nil, e
		}
		ids = append(ids, id)
	}
	return ids, api.OK
}

// put lays part, which is p's bytes, over the block that there is, or hangs one in with them: the patch, or that of the last pointer.
func put(v *vol.Vol, ino int, p piece, part []byte) (int, api.Errno) {
	// It is looked for anew, since what was hung in ahead of it may lead to it.
	x, e := itab.Load(v, ino)
	if e != api.OK {
		return 0, e
	}
	sector, e := bmap.Find(v, x, p.block)
	if e != api.OK {
		return 0, e
	}
	if sector != 0 {
		return v.Patch(api.Patch{At: sector, Off: p.at, Data: part, Kind: api.KindRaw, Owner: ino})
	}
	whole := make([]byte, p.at+len(part))
	copy(whole[p.at:], part)
	_, id, e := bmap.Put(v, ino, p.block, bmap.Content{Data: whole, Kind: api.KindRaw})
	return id, e
}

// base is the sector in which the pointer to what is missing ahead of block k, or to that, will be set: the last one of pointers to which pointers lead; self, if there is none.
func base(v *vol.Vol, x api.Inode, k, self int) (int, api.Errno) {
	w, _ := ptrs.To(k) // the block is one
	to := []uint16{0, x.Single, x.Double}[w.Level]
	last := self
	for _, place := range []int{w.First, w.Second}[:w.Level] {
		if to == 0 {
			break
		}
		last = int(to)
		p, e := v.Load(last, api.KindPtrs)
		if e == api.ErrArg {
			return 0, api.ErrSeal // one that there is not is not right either
		}
		if e != api.OK {
			return 0, e
		}
		to, _ = ptrs.At(p, place) // the place is one
	}
	return last, api.OK
}

// next is the sectors that will be taken next for an inode, as many as are due; an error where that can't be told, or one that will be one of pointers, and so be read again, can't be read.
func next(v *vol.Vol, ino int, due []bool) ([]int, api.Errno) {
	g, from := v.Geom(), alloc.Group(v, ino)
	var l []int
	for ahead := 0; ahead < g.Groups && len(l) < len(due); ahead++ {
		group := (from + ahead) % g.Groups
		h := head(g, group)
		if _, e := v.Load(h+1, api.KindMaps); e != api.OK && e != api.ErrSeal {
			return nil, e
		}
		for i := 0; i < g.Data && len(l) < len(due); i++ {
			if alloc.Free(v, api.KindRaw, group, i) {
				l = append(l, h+2+g.Inodes+i)
			}
		}
	}
	for i, sector := range l {
		if !due[i] {
			continue
		}
		if _, e := v.Now(sector); e != api.OK {
			return nil, e
		}
	}
	return l, api.OK
}

// home is a sector of an inode's group: what is marked with it is marked with the inode's own.
func home(v *vol.Vol, ino int) int { return head(v.Geom(), alloc.Group(v, ino)) }

// head is a group's first sector, behind which its maps, its inodes and its data lie; sectors 0 and 1 lie ahead of all groups.
func head(g api.Geom, group int) int {
	return 2 + group*(2+g.Inodes+g.Data)
}

// isPatched is whether layer 17 takes patches of a sector.
func isPatched(g api.Geom, sector int) bool {
	return sector >= head(g, 0) && sector < head(g, g.Groups)
}

// isData is whether a sector is one of data.
func isData(g api.Geom, sector int) bool {
	return isPatched(g, sector) && (sector-head(g, 0))%(2+g.Inodes+g.Data) >= 2+g.Inodes
}
