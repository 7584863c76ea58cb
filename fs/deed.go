package fs

import (
	"slices"

	"scupper/api"
	"scupper/dir"
	"scupper/geom"
	"scupper/itab"
)

// deed is what is asked, once it has no error but that of space: what it takes, whether it makes patches, the sectors whose groups it marks, and how it is done. Whoever makes one that makes patches reads all that is read when it is done.
type deed struct {
	sectors, inodes int
	patches         bool
	marks           []int
	do              func() (api.Answer, api.Errno)
}

// deed is what is asked; nothing is changed by asking.
func (f *FS) deed(o api.Op) (deed, api.Errno) {
	switch o.Kind {
	case api.OpOpen:
		return f.openFile(o)
	case api.OpClose:
		return f.closeFile(o)
	case api.OpRead:
		return f.read(o)
	case api.OpWrite:
		return f.write(o)
	case api.OpSeek:
		return f.seek(o)
	case api.OpCut:
		return f.cut(o)
	case api.OpMkdir:
		return f.makeDir(o)
	case api.OpRmdir:
		return f.removeDir(o)
	case api.OpLink:
		return f.link(o)
	case api.OpUnlink:
		return f.unlink(o)
	case api.OpRename:
		return f.rename(o)
	case api.OpStat:
		return f.stat(o)
	case api.OpList:
		return f.list(o)
	case api.OpFsync:
		return f.fsync(o)
	case api.OpSync:
		return does(f.sync), api.OK
	}
	return deed{}, api.ErrArg
}

// does is a deed that takes nothing, and answers nothing but its error.
func does(do func() api.Errno) deed {
	return deed{do: func() (api.Answer, api.Errno) { return api.Answer{}, do() }}
}

// tells is a deed that changes nothing.
func tells(a api.Answer) deed {
	return deed{do: func() (api.Answer, api.Errno) { return a, api.OK }}
}

// stat tells of an inode by its path.
func (f *FS) stat(o api.Op) (deed, api.Errno) {
	_, x, e := f.leads(o.Path)
	if e != api.OK {
		return deed{}, e
	}
	s := api.Stat{Kind: int(x.Kind), Size: int(x.Size), Links: int(x.Links)}
	if isDir(x) {
		s.Size = 0 // that of its blocks is nobody's but the directory's
	}
	return tells(api.Answer{Stat: s}), api.OK
}

// list tells the names of a directory.
func (f *FS) list(o api.Op) (deed, api.Errno) {
	ino, x, e := f.leads(o.Path)
	if e != api.OK {
		return deed{}, e
	}
	if !isDir(x) {
		return deed{}, api.ErrNotDir
	}
	l, e := dir.List(f.Vol(), ino)
	if e != api.OK {
		return deed{}, e
	}
	var names []string
	for _, entry := range l {
		names = append(names, entry.Name)
	}
	slices.Sort(names)
	return tells(api.Answer{Names: names}), api.OK
}

// fsync settles what leads to the file that is open, and what it has.
func (f *FS) fsync(o api.Op) (deed, api.Errno) {
	opened, e := f.open.Get(o.Fd)
	if e != api.OK {
		return deed{}, e
	}
	above, e := f.above(opened.Ino)
	if e != api.OK {
		return deed{}, e
	}
	var ids []int
	for _, ino := range append(above, opened.Ino) {
		ids = append(ids, f.By(ino)...)
		ids = append(ids, f.About(ino)...)
	}
	return does(func() api.Errno { return f.Settle(ids...) }), api.OK
}

// sync settles all, and lets the words say the groups of what has no names: they stay marked, that what is open now be found when it is open no more.
func (f *FS) sync() api.Errno {
	keep, e := f.nameless()
	if e != api.OK {
		return e
	}
	return f.Sync(keep...)
}

// nameless is the sectors of all inodes without names, and of what these have.
func (f *FS) nameless() ([]int, api.Errno) {
	var l []int
	for i := range geom.Inodes(f.Geom()) {
		ino := i + 1 // inodes are numbered from 1 on
		x, e := itab.Load(f.Vol(), ino)
		if isUnread(e) {
			return nil, e
		}
		if x.Kind == api.InodeFree || x.Links > 0 {
			continue
		}
		if e := f.tables(x); e != api.OK {
			return nil, e
		}
		l = append(append(l, f.sector(ino)), f.held(x)...)
	}
	return l, api.OK
}
