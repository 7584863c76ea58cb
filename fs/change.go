package fs

import (
	"scupper/alloc"
	"scupper/api"
	"scupper/dir"
	"scupper/file"
	"scupper/inode"
	"scupper/itab"
)

// making is what it takes to make a node at a spot.
func (f *FS) making(at spot) (deed, api.Errno) {
	d, e := f.adding(at.dir)
	if e != api.OK {
		return deed{}, e
	}
	source, e := f.source(alloc.Group(f.Vol(), at.dir))
	if e != api.OK {
		return deed{}, e
	}
	d.inodes = 1
	d.marks = append(source, d.marks...)
	return d, api.OK
}

// make makes a node of that kind at a spot: its inode.
func (f *FS) make(at spot, kind uint8) (int, api.Errno) {
	ino, taken, e := alloc.Inode(f.Vol(), alloc.Group(f.Vol(), at.dir))
	if e != api.OK {
		return 0, e
	}
	set, e := itab.Set(f.Vol(), ino, inode.All, api.Inode{Kind: kind, Links: 1}, taken)
	if e != api.OK {
		return 0, e
	}
	_, e = dir.Add(f.Vol(), at.dir, api.Entry{Ino: ino, Name: at.name}, set)
	return ino, e
}

// removing is the deed by which the name at a spot is taken, behind some patches, and lost.
func (f *FS) removing(at spot, needs ...int) (deed, api.Errno) {
	l, e := f.losing(at.ino)
	if e != api.OK {
		return deed{}, e
	}
	in, e := f.entry(at)
	if e != api.OK {
		return deed{}, e
	}
	d := does(func() api.Errno {
		taken, e := dir.Take(f.Vol(), at.dir, at.name, needs...)
		if e != api.OK {
			return e
		}
		return f.lose(at.ino, taken)
	})
	d.patches, d.marks = true, append(l, in)
	return d, api.OK
}

// lose lets an inode have one name less, behind a patch.
func (f *FS) lose(ino, behind int) api.Errno {
	x, e := itab.Load(f.Vol(), ino)
	if e != api.OK {
		return e
	}
	x.Links = fewer(x)
	if _, e := itab.Set(f.Vol(), ino, inode.Links, x, behind); e != api.OK || x.Links > 0 {
		return e
	}
	if f.open.Count(ino) > 0 {
		return f.Mark(f.held(x)...)
	}
	return f.drop(ino)
}

// fewer is how many links an inode has with one name less. One that is not sound can have fewer than names.
func fewer(x api.Inode) uint8 { return max(x.Links, 1) - 1 }

// drop drops an inode behind all that is about it: the names that it had go first.
func (f *FS) drop(ino int) api.Errno {
	return file.Drop(f.Vol(), ino, f.About(ino)...)
}
