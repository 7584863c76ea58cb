package bmap

import (
	"slices"

	"scupper/alloc"
	"scupper/api"
	"scupper/itab"
	"scupper/ptrs"
	"scupper/vol"
)

// pointerBytes is how many bytes a pointer has.
const pointerBytes = 2

// gap is where a block is missing: along a way of an inode, as far as pointers lead by now.
type gap struct {
	v    *vol.Vol
	ino  int
	x    api.Inode
	way  ptrs.Way
	done trail
}

// hung is a sector to which a pointer may be set, and the patches that must come ahead of that pointer: by which it is taken, and has its content.
type hung struct {
	sector int
	behind []int
}

// Put hangs in block k of an inode: its sector, and the patch of the last pointer.
func Put(v *vol.Vol, ino, k int, c Content) (int, int, api.Errno) {
	x, unread := itab.Load(v, ino)
	if unread == api.ErrNil || unread == api.ErrArg || unread == api.ErrSeal {
		return 0, 0, unread
	}
	w, e := ptrs.To(k)
	if e != api.OK {
		return 0, 0, e
	}
	t := follow(v, x, w)
	if t.block != 0 || !mayBe(c) {
		return 0, 0, api.ErrArg
	}
	// That something can't be read comes behind all that is told without it.
	if unread != api.OK {
		return 0, 0, unread
	}
	if t.stop != api.OK {
		return 0, 0, t.stop
	}
	if free, _ := alloc.Avail(v); free < cost(w, t) {
		return 0, 0, api.ErrSpace
	}
	return gap{v: v, ino: ino, x: x, way: w, done: t}.put(c)
}

// put hangs in a block for which there is room.
func (a gap) put(c Content) (int, int, api.Errno) {
	if !mayNeed(a.v, c.Needs) {
		return 0, 0, a.takeAlone()
	}
	if e := a.mark(); e != api.OK {
		return 0, 0, e
	}
	block, e := a.hang(c)
	if e != api.OK {
		return 0, 0, e
	}
	first, e := a.hangTables(block, c.Child)
	if e != api.OK {
		return 0, 0, e
	}
	id, e := a.point(first, c.Child)
	if e != api.OK {
		return 0, 0, e
	}
	return block.sector, id, api.OK
}

// takeAlone takes a sector for a content that is refused then.
func (a gap) takeAlone() api.Errno {
	if _, _, e := alloc.Block(a.v, alloc.Group(a.v, a.ino)); e != api.OK {
		return e
	}
	return api.ErrArg
}

// mark marks the groups of all that will be changed. A patch whose group can't be marked stays in the graph; so they are marked ahead of all patches, that a call which is refused leaves none.
func (a gap) mark() api.Errno {
	at := head(a.v.Geom(), alloc.Group(a.v, a.ino))
	if t := a.done.tables; len(t) > 0 {
		at = t[len(t)-1]
	}
	if at < head(a.v.Geom(), 0) {
		return api.ErrArg // layer 17 takes no patch of the shape's sectors
	}
	n := cost(a.way, a.done)
	if n == 1 {
		return a.v.Mark(at) // the group of one sector alone is marked, ahead of its patch, when it is taken
	}
	l, e := a.sources(n)
	if e != api.OK {
		return e
	}
	return a.v.Mark(append(l, at)...)
}

// sources is the heads of the groups from which the next n sectors will be taken; an error where that can't be told, since maps on the way can't be read.
func (a gap) sources(n int) ([]int, api.Errno) {
	g, from := a.v.Geom(), alloc.Group(a.v, a.ino)
	var l []int
	for ahead := 0; ahead < g.Groups && len(l) < n; ahead++ {
		group := (from + ahead) % g.Groups
		h := head(g, group)
		if _, e := a.v.Load(h+1, api.KindMaps); e != api.OK && e != api.ErrSeal {
			return nil, e
		}
		// Just the group is asked for, and a group is taken from its front on: from its end on a free place is found sooner.
		for i := g.Data - 1; i >= 0 && len(l) < n; i-- {
			if alloc.Free(a.v, api.KindRaw, group, i) {
				l = append(l, h)
			}
		}
	}
	return l, api.OK
}

// hang takes a sector that has this content.
func (a gap) hang(c Content) (hung, api.Errno) {
	sector, b, e := alloc.Block(a.v, alloc.Group(a.v, a.ino))
	if e != api.OK {
		return hung{}, e
	}
	whole := make([]byte, room(c.Kind))
	copy(whole, c.Data)
	d, e := a.v.Patch(api.Patch{At: sector, Data: whole, Kind: c.Kind, Needs: c.Needs, Owner: a.ino, Child: c.Child})
	if e != api.OK {
		return hung{}, e
	}
	return hung{sector: sector, behind: []int{b, d}}, api.OK
}

// hangTables hangs the sectors of pointers that are missing ahead of what is hung, the last one of the way first: the one that is left to be pointed to.
func (a gap) hangTables(h hung, child int) (hung, api.Errno) {
	missing := places(a.way)[len(a.done.tables):]
	for _, i := range slices.Backward(missing) {
		load, _ := ptrs.With(api.Load{}, i, uint16(h.sector)) // the place is one
		var e api.Errno
		h, e = a.hang(Content{Data: load[:], Kind: api.KindPtrs, Needs: h.behind, Child: child})
		if e != api.OK {
			return hung{}, e
		}
	}
	return h, api.OK
}

// point sets the pointer to what is hung: that of the last sector of pointers that there was, or the inode's own.
func (a gap) point(h hung, child int) (int, api.Errno) {
	n := len(a.done.tables)
	if n == 0 {
		x := a.x
		*own(&x, a.way) = uint16(h.sector)
		return itab.About(a.v, a.ino, child, field(a.way), x, h.behind...)
	}
	i := places(a.way)[n-1]
	load, _ := ptrs.With(api.Load{}, i, uint16(h.sector)) // the place is one
	off := i * pointerBytes
	return a.v.Patch(api.Patch{
		At:    a.done.tables[n-1],
		Off:   off,
		Data:  load[off : off+pointerBytes],
		Kind:  api.KindPtrs,
		Needs: h.behind,
		Owner: a.ino,
		Child: child,
	})
}

// mayBe is whether c's kind and number of bytes are such as may be.
func mayBe(c Content) bool {
	return c.Kind >= api.KindRaw && c.Kind <= api.KindDir && len(c.Data) <= room(c.Kind)
}

// room is how many bytes a content of that kind may have.
func room(kind int) int {
	if kind == api.KindRaw {
		return api.Sector
	}
	return api.Payload
}

// mayNeed is whether the graph takes a content with these needs, once its sector is taken.
func mayNeed(v *vol.Vol, needs []int) bool {
	if len(needs) == 0 {
		return true
	}
	g := v.Graph() // a copy, so that nothing is left of what is tried here
	p := api.Patch{Data: []byte{0}}
	g.Add(p) // in place of the patch that takes the sector: by then its number is given, too
	p.Needs = needs
	_, e := g.Add(p)
	return e == api.OK
}

// head is a group's first sector, behind which its maps lie; sectors 0 and 1 lie ahead of all groups.
func head(g api.Geom, group int) int {
	return 2 + group*(2+g.Inodes+g.Data)
}
