package fs

import (
	"scupper/api"
	"scupper/dir"
	"scupper/inode"
	"scupper/itab"
	"scupper/path"
)

// rename lets an inode have the name To instead of Path.
func (f *FS) rename(o api.Op) (deed, api.Errno) {
	from, to, e := f.ends(o)
	if e != api.OK {
		return deed{}, e
	}
	if from.ino == to.ino {
		return tells(api.Answer{}), api.OK
	}
	x, e := f.mayTurn(from.ino, to.ino)
	if e != api.OK {
		return deed{}, e
	}
	d, e := f.coming(to)
	if e != api.OK {
		return deed{}, e
	}
	was, e := f.entry(from)
	if e != api.OK {
		return deed{}, e
	}
	d.marks = append(d.marks, f.sector(from.ino), was)
	d.do = func() (api.Answer, api.Errno) { return api.Answer{}, f.move(from, to, x) }
	return d, api.OK
}

// ends is where both names of a rename lie, of which the first one is there.
func (f *FS) ends(o api.Op) (spot, spot, api.Errno) {
	inside, e := sides(o.Path, o.To)
	if e != api.OK {
		return spot{}, spot{}, e
	}
	from, e := f.parent(o.Path, api.ErrBusy)
	if e != api.OK {
		return spot{}, spot{}, e
	}
	if from.ino == 0 {
		return spot{}, spot{}, api.ErrNoEnt
	}
	if inside {
		if _, e := f.noDir(from.ino); e == api.ErrIsDir {
			return spot{}, spot{}, api.ErrInside
		} else if e != api.OK {
			return spot{}, spot{}, e
		}
	}
	to, e := f.parent(o.To, api.ErrBusy)
	if e != api.OK {
		return spot{}, spot{}, e
	}
	return from, to, api.OK
}

// sides tells whether the path to lies inside from, neither of which may be /.
func sides(from, to string) (bool, api.Errno) {
	a, e := path.Split(from)
	if e != api.OK {
		return false, e
	}
	b, e := path.Split(to)
	if e != api.OK {
		return false, e
	}
	if len(a) == 0 || len(b) == 0 {
		return false, api.ErrBusy
	}
	return path.Inside(a, b), api.OK
}

// mayTurn is the inode whose name that of another one, or of none (0), becomes, or why it can't.
func (f *FS) mayTurn(ino, was int) (api.Inode, api.Errno) {
	x, e := itab.Load(f.Vol(), ino)
	if e != api.OK {
		return api.Inode{}, e
	}
	if was != 0 {
		w, e := itab.Load(f.Vol(), was)
		switch {
		case e != api.OK:
			return api.Inode{}, e
		case isDir(x) && !isDir(w):
			return api.Inode{}, api.ErrNotDir
		case !isDir(x) && isDir(w):
			return api.Inode{}, api.ErrIsDir
		case isDir(w):
			e = f.isEmpty(was)
		}
		if e != api.OK {
			return api.Inode{}, e
		}
	}
	if x.Links >= api.MaxLinks {
		return api.Inode{}, api.ErrLinks
	}
	return x, api.OK
}

// coming is what it takes that the name at a spot becomes another inode's.
func (f *FS) coming(to spot) (deed, api.Errno) {
	if to.ino == 0 {
		return f.adding(to.dir)
	}
	l, e := f.losing(to.ino)
	if e != api.OK {
		return deed{}, e
	}
	in, e := f.entry(to)
	if e != api.OK {
		return deed{}, e
	}
	return deed{patches: true, marks: append(l, in)}, api.OK
}

// move renames the inode x. It has both names for a while, and a link more: whenever the power goes one name is there, and never too few links.
func (f *FS) move(from, to spot, x api.Inode) api.Errno {
	linked := x
	linked.Links++
	more, e := itab.Set(f.Vol(), from.ino, inode.Links, linked)
	if e != api.OK {
		return e
	}
	come, e := f.come(to, from.ino, more)
	if e != api.OK {
		return e
	}
	// A directory on the way that comes about later than the old name goes would leave the inode without any.
	needs := []int{come}
	for _, in := range to.way {
		needs = append(needs, f.By(in)...)
	}
	taken, e := dir.Take(f.Vol(), from.dir, from.name, needs...)
	if e != api.OK {
		return e
	}
	if _, e := itab.Set(f.Vol(), from.ino, inode.Links, x, taken); e != api.OK || to.ino == 0 {
		return e
	}
	return f.lose(to.ino, come)
}

// come lets the name at a spot be the inode's, behind a patch: the patch.
func (f *FS) come(to spot, ino, behind int) (int, api.Errno) {
	if to.ino == 0 {
		return dir.Add(f.Vol(), to.dir, api.Entry{Ino: ino, Name: to.name}, behind)
	}
	needs := []int{behind}
	was, e := itab.Load(f.Vol(), to.ino)
	if e != api.OK {
		return 0, e
	}
	if isDir(was) {
		needs = append(needs, f.By(to.ino)...)
	}
	return dir.Turn(f.Vol(), to.dir, to.name, ino, needs...)
}
