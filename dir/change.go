package dir

import (
	"slices"

	"scupper/alloc"
	"scupper/api"
	"scupper/bmap"
	"scupper/dirent"
	"scupper/inode"
	"scupper/itab"
	"scupper/num"
	"scupper/vol"
)

// Which block is the first behind Single, and behind Double, and how many lie behind each sector of pointers.
const (
	single = 4
	each   = api.Payload / 2
	double = single + each
)

// extra is a block that a directory needs for one name more: its number, the directory's, and what that was ahead of it.
type extra struct {
	v      *vol.Vol
	k, dir int
	x      api.Inode
}

// Add adds a name to a directory: the last patch that was made.
func Add(v *vol.Vol, dir int, e api.Entry, needs ...int) (int, api.Errno) {
	b, args := dirent.Put(e)
	x, err := load(v, dir, args)
	if err != api.OK {
		return 0, err
	}
	s, err := room(v, x, e.Name)
	if err != api.OK {
		return 0, err
	}
	ahead := slices.Concat(needs, Losses(v, dir))
	if s.sector == 0 {
		n := extra{v: v, k: blocks(x), dir: dir, x: x}
		return n.hang(bmap.Content{Data: b[:], Kind: api.KindDir, Needs: ahead, Child: e.Ino})
	}
	return s.lay(v, api.Patch{Data: b[:], Needs: ahead, Owner: dir, Child: e.Ino})
}

// Take takes a name from a directory: the patch.
func Take(v *vol.Vol, dir int, name string, needs ...int) (int, api.Errno) {
	x, e := load(v, dir, dirent.Check(name))
	if e != api.OK {
		return 0, e
	}
	s, e := find(v, x, name)
	if e != api.OK {
		return 0, e
	}
	return s.lay(v, api.Patch{Data: make([]byte, slotBytes), Needs: needs, Owner: dir, Child: s.entry.Ino})
}

// Turn lets a name of a directory be another inode's: the patch.
func Turn(v *vol.Vol, dir int, name string, ino int, needs ...int) (int, api.Errno) {
	_, args := dirent.Put(api.Entry{Ino: ino, Name: name})
	x, e := load(v, dir, args)
	if e != api.OK {
		return 0, e
	}
	s, e := find(v, x, name)
	if e != api.OK {
		return 0, e
	}
	b := num.Put16(uint16(ino))
	ahead := slices.Concat(needs, Losses(v, dir))
	return s.lay(v, api.Patch{Data: b[:], Needs: ahead, Owner: dir, Child: ino})
}

// room is the first empty slot of a directory that does not have that name; no sector, if there is none.
func room(v *vol.Vol, x api.Inode, name string) (slot, api.Errno) {
	var first slot
	stop := api.OK
	for s, e := range slots(v, x) {
		switch {
		case e != api.OK:
			stop = e // that the name is there comes ahead of it
		case s.entry.Name == name:
			return slot{}, api.ErrExist
		case s.isEmpty() && first.sector == 0:
			first = s
		}
	}
	return first, stop
}

// lay lays p's bytes over the slot, from its beginning on.
func (s slot) lay(v *vol.Vol, p api.Patch) (int, api.Errno) {
	if !mayNeed(v, 0, p.Needs) {
		return 0, api.ErrArg
	}
	// A patch whose group can't be marked stays in the graph; so the group is marked ahead of it, that a call which is refused leaves nothing.
	if e := v.Mark(s.sector); e != api.OK {
		return 0, e
	}
	p.At, p.Off, p.Kind = s.sector, s.off, api.KindDir
	return v.Patch(p)
}

// hang hangs in the block with this content, and sets the size behind it.
func (n extra) hang(c bmap.Content) (int, api.Errno) {
	if e := n.mayHang(); e != api.OK {
		return 0, e
	}
	if !mayNeed(n.v, 1, c.Needs) { // a patch of the maps comes ahead of the content
		return 0, api.ErrArg
	}
	// Layer 20 marks what it changes ahead of its first patch; the size comes behind all these.
	if e := n.v.Mark(home(n.v, n.dir)); e != api.OK {
		return 0, e
	}
	_, id, e := bmap.Put(n.v, n.dir, n.k, c)
	if e != api.OK {
		return 0, e
	}
	n.x.Size += api.Sector
	return itab.Set(n.v, n.dir, inode.Size, n.x, id)
}

// mayHang tells why the block can't be hung in, so that nothing is marked for one that is refused.
func (n extra) mayHang() api.Errno {
	sector, e := bmap.Find(n.v, n.x, n.k)
	if e != api.OK {
		return e
	}
	if sector != 0 {
		return api.ErrArg // there is a block behind the size, and layer 20 hangs in none where one is
	}
	if free, _ := alloc.Avail(n.v); free < bmap.Cost(n.v, n.x, n.k) {
		return api.ErrSpace
	}
	return n.mayPoint()
}

// mayPoint tells why no pointer can be set in the last sector of pointers on the way to the block.
func (n extra) mayPoint() api.Errno {
	t := n.table()
	if t == 0 {
		return api.OK // the pointer is the inode's own
	}
	_, e := n.v.Load(t, api.KindPtrs)
	switch {
	case e == api.ErrArg:
		return api.ErrSeal // one that there is not is not right either
	case e == api.OK && t < head(n.v.Geom(), 0):
		return api.ErrArg // layer 17 takes no patch of the shape's sectors
	}
	return e
}

// table is the last sector of pointers on the way to the block, as far as pointers lead; 0 without one.
func (n extra) table() int {
	switch {
	case n.k < single:
		return 0
	case n.k < double:
		return int(n.x.Single)
	}
	// Layer 20 tells pointers of an inode alone: of one whose Single is this one's Double these are Double's own.
	next, _ := bmap.Find(n.v, api.Inode{Single: n.x.Double}, single+(n.k-double)/each)
	if next == 0 {
		return int(n.x.Double)
	}
	return next
}

// mayNeed is whether the graph takes a patch with these needs, once so many others came ahead of it.
func mayNeed(v *vol.Vol, others int, needs []int) bool {
	if len(needs) == 0 {
		return true
	}
	g := v.Graph() // a copy, so that nothing is left of what is tried here
	p := api.Patch{Data: []byte{0}}
	for range others {
		g.Add(p)
	}
	p.Needs = needs
	_, e := g.Add(p)
	return e == api.OK
}

// home is a sector of an inode's group: what is marked with it is marked with the inode's own.
func home(v *vol.Vol, ino int) int { return head(v.Geom(), alloc.Group(v, ino)) }

// head is a group's first sector; sectors 0 and 1 lie ahead of all groups.
func head(g api.Geom, group int) int {
	return 2 + group*(2+g.Inodes+g.Data)
}
