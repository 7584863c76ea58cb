package file

import (
	"scupper/api"
	"scupper/bmap"
	"scupper/inode"
	"scupper/itab"
	"scupper/ptrs"
	"scupper/vol"
)

// pointerBytes is how many bytes a pointer has.
const pointerBytes = 2

// How many blocks lie ahead of those behind Single, behind Double, and in each sector of pointers.
const (
	direct   = 4
	each     = api.Payload / pointerBytes
	indirect = direct + each
)

// cut is a file that is to be shorter.
type cut struct {
	v        *vol.Vol
	ino      int
	was, now api.Inode
	need     int // how many blocks stay, be they there or not
}

// step is a patch that comes behind the inode's, and the sectors that are free behind it.
type step struct {
	patch api.Patch
	gone  []int
}

// Cut gives a file that size.
func Cut(v *vol.Vol, ino, size int) api.Errno {
	args := api.OK
	if size < 0 {
		args = api.ErrArg
	} else if size > api.MaxSize {
		args = api.ErrBig
	}
	x, e := load(v, ino, args)
	if e != api.OK {
		return e
	}
	if size >= int(x.Size) {
		return stretchTo(v, ino, x, size)
	}
	c := cut{v: v, ino: ino, was: x, now: shorter(x, size), need: ptrs.Blocks(size)}
	return c.do()
}

// Drop sets an inode to noughts, behind the patches needs, and lets all that it had be free.
func Drop(v *vol.Vol, ino int, needs ...int) api.Errno {
	args := api.OK
	if !mayNeed(v, needs) {
		args = api.ErrArg
	}
	x, e := load(v, ino, args)
	if e != api.OK {
		return e
	}
	if e := unread(v, x); e != api.OK {
		return e
	}
	gone := sectors(v, x)
	if e := v.Mark(append([]int{home(v, ino)}, onlyData(v, gone)...)...); e != api.OK {
		return e
	}
	id, e := itab.Set(v, ino, inode.All, api.Inode{}, needs...)
	if e != api.OK {
		return e
	}
	return v.Later(vol.Free{After: []int{id}, Blocks: gone, Ino: ino})
}

// stretchTo sets the size alone.
func stretchTo(v *vol.Vol, ino int, x api.Inode, size int) api.Errno {
	// A patch whose group can't be marked stays in the graph, and of a call that is refused nothing is to be left.
	if e := v.Mark(home(v, ino)); e != api.OK {
		return e
	}
	x.Size = uint32(size)
	_, e := itab.Set(v, ino, inode.Size, x)
	return e
}

// shorter is x with a size that is less, and without the pointers of its own that the size does not need.
func shorter(x api.Inode, size int) api.Inode {
	need := ptrs.Blocks(size)
	x.Size = uint32(size)
	for k := range x.Direct {
		if k >= need {
			x.Direct[k] = 0
		}
	}
	if need <= direct {
		x.Single = 0
	}
	if need <= indirect {
		x.Double = 0
	}
	return x
}

// do cuts the file.
func (c cut) do() api.Errno {
	if e := unread(c.v, c.was); e != api.OK {
		return e
	}
	gone := sectors(c.v, c.lost())
	steps := c.steps()
	if e := c.mark(gone, steps); e != api.OK {
		return e
	}
	t, e := itab.Set(c.v, c.ino, inode.Tail, c.now)
	if e != api.OK {
		return e
	}
	if e := later(c.v, t, gone); e != api.OK {
		return e
	}
	for _, s := range steps {
		s.patch.Needs = []int{t}
		id, e := c.v.Patch(s.patch)
		if e != api.OK {
			return e
		}
		if e := later(c.v, id, s.gone); e != api.OK {
			return e
		}
	}
	return api.OK
}

// mark marks the groups of all that will be changed or free, ahead of all patches, so that nothing is left of a call that is refused.
func (c cut) mark(gone []int, steps []step) api.Errno {
	l := append([]int{home(c.v, c.ino)}, onlyData(c.v, gone)...)
	for _, s := range steps {
		if !isPatched(c.v.Geom(), s.patch.At) {
			return api.ErrArg
		}
		l = append(append(l, s.patch.At), onlyData(c.v, s.gone)...)
	}
	return c.v.Mark(l...)
}

// lost is an inode that has just the pointers that go with the inode's own patch.
func (c cut) lost() api.Inode {
	var x api.Inode
	for k, to := range c.was.Direct {
		if c.now.Direct[k] == 0 {
			x.Direct[k] = to
		}
	}
	if c.now.Single == 0 {
		x.Single = c.was.Single
	}
	if c.now.Double == 0 {
		x.Double = c.was.Double
	}
	return x
}

// steps is what comes behind the inode's own patch, in order.
func (c cut) steps() []step {
	l := c.blocksOff(c.now.Single, c.need-direct)
	need := c.need - indirect
	for i, to := range row(c.v, c.now.Double) {
		switch {
		case need > 0:
			l = append(l, c.blocksOff(to, need)...)
		case to != 0:
			l = append(l, c.off(c.now.Double, i, api.Inode{Single: to}))
		}
		need -= each
	}
	return append(l, c.blank()...)
}

// blocksOff is the steps by which those pointers to blocks go that lie behind the first need ones of a sector of pointers.
func (c cut) blocksOff(sector uint16, need int) []step {
	var l []step
	for i, to := range row(c.v, sector) {
		if i >= need && to != 0 {
			l = append(l, c.off(sector, i, api.Inode{Direct: [direct]uint16{to}}))
		}
	}
	return l
}

// off is the step by which the pointer at place i of a sector of pointers goes; lost has what it leads to.
func (c cut) off(sector uint16, i int, lost api.Inode) step {
	p := api.Patch{At: int(sector), Off: i * pointerBytes, Data: make([]byte, pointerBytes), Kind: api.KindPtrs, Owner: c.ino}
	return step{patch: p, gone: sectors(c.v, lost)}
}

// blank is the step that lays noughts behind the size, up to its block's end; none where nothing is left of that block, or it is not there.
func (c cut) blank() []step {
	at := int(c.now.Size) % api.Sector
	if at == 0 {
		return nil
	}
	sector, _ := bmap.Find(c.v, c.now, c.need-1) // all that leads to it can be read
	if sector == 0 {
		return nil
	}
	p := api.Patch{At: sector, Off: at, Data: make([]byte, api.Sector-at), Kind: api.KindRaw, Owner: c.ino}
	return []step{{patch: p}}
}

// sectors is those of all blocks of x, and then its sectors of pointers.
func sectors(v *vol.Vol, x api.Inode) []int {
	var l []int
	for _, h := range bmap.Blocks(v, x) {
		l = append(l, h.Sector)
	}
	return append(l, bmap.Tables(v, x)...)
}

// later lets sectors be free behind a patch.
func later(v *vol.Vol, id int, gone []int) api.Errno {
	if len(gone) == 0 {
		return api.OK
	}
	return v.Later(vol.Free{After: []int{id}, Blocks: gone})
}

// unread is why a sector of pointers of x can't be read at all, so that nobody knows to what it leads; one that is not right leads to nothing.
func unread(v *vol.Vol, x api.Inode) api.Errno {
	for _, sector := range bmap.Tables(v, x) {
		if _, e := v.Load(sector, api.KindPtrs); e != api.OK && e != api.ErrSeal && e != api.ErrArg {
			return e
		}
	}
	return api.OK
}

// row is the pointers of a sector of pointers: none where there is no sector, noughts where it is not right.
func row(v *vol.Vol, sector uint16) []uint16 {
	// What lies in sector 0 is asked by nobody: a pointer that is 0 leads nowhere, whatever is there.
	if sector == 0 {
		return nil
	}
	p, _ := v.Load(int(sector), api.KindPtrs) // noughts with an error
	return ptrs.All(p)
}

// onlyData is those of l that are sectors of data: of others nothing can be free.
func onlyData(v *vol.Vol, l []int) []int {
	var data []int
	for _, sector := range l {
		if isData(v.Geom(), sector) {
			data = append(data, sector)
		}
	}
	return data
}

// mayNeed is whether the graph takes a patch with these needs.
func mayNeed(v *vol.Vol, needs []int) bool {
	if len(needs) == 0 {
		return true
	}
	_, e := v.Graph().Add(api.Patch{Data: []byte{0}, Needs: needs}) // a copy, so that nothing is left of it
	return e == api.OK
}
