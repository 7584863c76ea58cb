package fs

import (
	"scupper/api"
	"scupper/dir"
	"scupper/inode"
	"scupper/itab"
	"scupper/path"
)

// spot is where the last name of a path lies: the directories on the way there from the root on, the last of which has it, and the inode that it has there (0: none).
type spot struct {
	way  []int
	dir  int
	name string
	ino  int
}

// find is the inode of a name of a directory.
func (f *FS) find(in int, name string) (int, api.Errno) {
	ino, e := dir.Find(f.Vol(), in, name)
	if e == api.ErrArg {
		return 0, api.ErrNotDir // an inode that there is not is no directory
	}
	return ino, e
}

// along is the inode to which names lead from the root on, and the directories that are passed.
func (f *FS) along(names []string) (int, []int, api.Errno) {
	ino := api.Root
	var way []int
	for _, name := range names {
		next, e := f.find(ino, name)
		if e != api.OK {
			return 0, nil, e
		}
		way = append(way, ino)
		ino = next
	}
	return ino, way, api.OK
}

// leads is the inode to which a path leads, and what it is.
func (f *FS) leads(p string) (int, api.Inode, api.Errno) {
	ino, e := f.Walk(p)
	if e != api.OK {
		return 0, api.Inode{}, e
	}
	x, e := itab.Load(f.Vol(), ino)
	return ino, x, e
}

// parent is where the last name of a path lies; of / the error is root.
func (f *FS) parent(p string, root api.Errno) (spot, api.Errno) {
	names, name, e := path.Last(p)
	if e == api.ErrArg { // Last tells this of / alone
		return spot{}, root
	}
	if e != api.OK {
		return spot{}, e
	}
	in, way, e := f.along(names)
	if e != api.OK {
		return spot{}, e
	}
	ino, e := f.find(in, name)
	if e != api.OK && e != api.ErrNoEnt {
		return spot{}, e
	}
	return spot{way: append(way, in), dir: in, name: name, ino: ino}, api.OK
}

func isDir(x api.Inode) bool { return x.Kind == api.InodeDir }

// noDir is an inode that is to be no directory.
func (f *FS) noDir(ino int) (api.Inode, api.Errno) {
	x, e := itab.Load(f.Vol(), ino)
	if e == api.OK && isDir(x) {
		return api.Inode{}, api.ErrIsDir
	}
	return x, e
}

// makeDir makes an empty directory.
func (f *FS) makeDir(o api.Op) (deed, api.Errno) {
	at, e := f.parent(o.Path, api.ErrExist)
	if e != api.OK {
		return deed{}, e
	}
	if at.ino != 0 {
		return deed{}, api.ErrExist
	}
	d, e := f.making(at)
	if e != api.OK {
		return deed{}, e
	}
	d.do = func() (api.Answer, api.Errno) {
		_, e := f.make(at, api.InodeDir)
		return api.Answer{}, e
	}
	return d, api.OK
}

// removeDir takes the name of an empty directory.
func (f *FS) removeDir(o api.Op) (deed, api.Errno) {
	at, e := f.parent(o.Path, api.ErrBusy)
	if e != api.OK {
		return deed{}, e
	}
	if at.ino == 0 {
		return deed{}, api.ErrNoEnt
	}
	x, e := itab.Load(f.Vol(), at.ino)
	if e != api.OK {
		return deed{}, e
	}
	if !isDir(x) {
		return deed{}, api.ErrNotDir
	}
	if e := f.isEmpty(at.ino); e != api.OK {
		return deed{}, e
	}
	// What was renamed out of it has its new name on the disk ahead of that, else it could lose both.
	return f.removing(at, f.By(at.ino)...)
}

// isEmpty tells ErrNotEmpty of a directory with names.
func (f *FS) isEmpty(ino int) api.Errno {
	l, e := dir.List(f.Vol(), ino)
	if e == api.OK && len(l) > 0 {
		return api.ErrNotEmpty
	}
	return e
}

// unlink takes one name of a file.
func (f *FS) unlink(o api.Op) (deed, api.Errno) {
	at, e := f.parent(o.Path, api.ErrIsDir)
	if e != api.OK {
		return deed{}, e
	}
	if at.ino == 0 {
		return deed{}, api.ErrNoEnt
	}
	if _, e := f.noDir(at.ino); e != api.OK {
		return deed{}, e
	}
	return f.removing(at)
}

// link gives a file one more name.
func (f *FS) link(o api.Op) (deed, api.Errno) {
	ino, x, e := f.leads(o.Path)
	if e != api.OK {
		return deed{}, e
	}
	if isDir(x) {
		return deed{}, api.ErrIsDir
	}
	to, e := f.parent(o.To, api.ErrExist)
	switch {
	case e != api.OK:
		return deed{}, e
	case to.ino != 0:
		return deed{}, api.ErrExist
	case x.Links >= api.MaxLinks:
		return deed{}, api.ErrLinks
	}
	d, e := f.adding(to.dir)
	if e != api.OK {
		return deed{}, e
	}
	d.marks = append(d.marks, f.sector(ino))
	d.do = func() (api.Answer, api.Errno) {
		x.Links++
		more, e := itab.Set(f.Vol(), ino, inode.Links, x)
		if e != api.OK {
			return api.Answer{}, e
		}
		_, e = dir.Add(f.Vol(), to.dir, api.Entry{Ino: ino, Name: to.name}, more)
		return api.Answer{}, e
	}
	return d, api.OK
}
