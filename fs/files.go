package fs

import (
	"scupper/api"
	"scupper/fds"
	"scupper/file"
	"scupper/itab"
)

// openFile opens the file of a path, which comes about if it may.
func (f *FS) openFile(o api.Op) (deed, api.Errno) {
	if !mayFlag(o.Flags) {
		return deed{}, api.ErrArg
	}
	at, e := f.parent(o.Path, api.ErrIsDir)
	if e != api.OK {
		return deed{}, e
	}
	x, e := f.mayOpen(at.ino, o.Flags)
	if e != api.OK {
		return deed{}, e
	}
	if f.open.Full() {
		return deed{}, api.ErrFiles
	}
	d, e := f.becoming(at, x, o.Flags)
	d.do = func() (api.Answer, api.Errno) {
		e, ino := api.OK, at.ino
		if ino == 0 {
			ino, e = f.make(at, api.InodeFile)
		} else if o.Flags&api.FlagCut != 0 && x.Size != 0 {
			e = file.Cut(f.Vol(), ino, 0)
		}
		if e != api.OK {
			return api.Answer{}, e
		}
		fd, e := f.open.Open(ino, o.Flags&(api.FlagRead|api.FlagWrite))
		return api.Answer{N: fd}, e
	}
	return d, e
}

// becoming is what it takes that the file at a spot, x if it is there, is opened by such flags.
func (f *FS) becoming(at spot, x api.Inode, flags int) (deed, api.Errno) {
	switch {
	case at.ino == 0:
		return f.making(at)
	case flags&api.FlagCut != 0 && x.Size != 0:
		return deed{patches: true}, f.tables(x)
	}
	return deed{}, api.OK
}

// mayFlag tells whether a file can be opened by such flags.
func mayFlag(flags int) bool {
	const known = api.FlagRead | api.FlagWrite | api.FlagCreate | api.FlagOnly | api.FlagCut
	has := func(flag int) bool { return flags&flag != 0 }
	switch {
	case has(^known):
		return false
	case !has(api.FlagRead | api.FlagWrite):
		return false
	case has(api.FlagOnly) && !has(api.FlagCreate):
		return false
	}
	return !has(api.FlagCut) || has(api.FlagWrite)
}

// mayOpen is what is to be opened by such flags (0: the name is not there), or why it can't be.
func (f *FS) mayOpen(ino, flags int) (api.Inode, api.Errno) {
	switch {
	case ino == 0 && flags&api.FlagCreate == 0:
		return api.Inode{}, api.ErrNoEnt
	case ino == 0:
		return api.Inode{}, api.OK
	case flags&api.FlagOnly != 0:
		return api.Inode{}, api.ErrExist
	}
	return f.noDir(ino)
}

// closeFile frees a place of the table; a file without names is dropped with the last one that had it open.
func (f *FS) closeFile(o api.Op) (deed, api.Errno) {
	opened, e := f.open.Get(o.Fd)
	if e != api.OK {
		return deed{}, e
	}
	x, e := itab.Load(f.Vol(), opened.Ino)
	if e != api.OK {
		return deed{}, e
	}
	last := x.Links == 0 && f.open.Count(opened.Ino) == 1
	if last {
		e = f.tables(x)
	}
	d := does(func() api.Errno {
		if last {
			// The place comes behind: where the file can't be dropped it stays open.
			if e := f.drop(opened.Ino); e != api.OK {
				return e
			}
		}
		_, e := f.open.Close(o.Fd)
		return e
	})
	d.patches = last
	return d, e
}

// opened is the file at a place of the table, if it was opened for that.
func (f *FS) opened(fd, flag int) (fds.File, api.Errno) {
	opened, e := f.open.Get(fd)
	if e != api.OK {
		return fds.File{}, e
	}
	if opened.Mode&flag == 0 {
		return fds.File{}, api.ErrMode
	}
	return opened, api.OK
}

// read tells bytes from a file's place on, and moves it behind them.
func (f *FS) read(o api.Op) (deed, api.Errno) {
	opened, e := f.opened(o.Fd, api.FlagRead)
	if e != api.OK {
		return deed{}, e
	}
	if o.N < 0 || o.N > api.MaxBytes {
		return deed{}, api.ErrArg
	}
	return deed{do: func() (api.Answer, api.Errno) {
		data, e := file.Read(f.Vol(), opened.Ino, opened.Pos, o.N)
		if e != api.OK {
			return api.Answer{}, e
		}
		return api.Answer{Data: data}, f.open.Seek(o.Fd, opened.Pos+len(data))
	}}, api.OK
}

// write puts bytes from a file's place on, and moves it behind them.
func (f *FS) write(o api.Op) (deed, api.Errno) {
	opened, e := f.opened(o.Fd, api.FlagWrite)
	if e != api.OK {
		return deed{}, e
	}
	if len(o.Data) > api.MaxBytes {
		return deed{}, api.ErrArg
	}
	end := opened.Pos + len(o.Data)
	if end > api.MaxSize {
		return deed{}, api.ErrBig
	}
	x, e := itab.Load(f.Vol(), opened.Ino)
	if e != api.OK {
		return deed{}, e
	}
	if x.Kind == api.InodeFree {
		return deed{}, api.ErrArg // layer 21 writes to no such inode
	}
	taking, e := f.taking(opened.Ino, x, opened.Pos, end)
	if e != api.OK {
		return deed{}, e
	}
	if _, e := f.next(opened.Ino, taking); e != api.OK {
		return deed{}, e
	}
	return deed{sectors: len(taking), patches: len(o.Data) > 0, do: func() (api.Answer, api.Errno) {
		if e := file.Write(f.Vol(), opened.Ino, opened.Pos, o.Data); e != api.OK {
			return api.Answer{}, e
		}
		return api.Answer{N: len(o.Data)}, f.open.Seek(o.Fd, end)
	}}, api.OK
}

// seek moves to a place of a file, be it beyond its end or not.
func (f *FS) seek(o api.Op) (deed, api.Errno) {
	if _, e := f.open.Get(o.Fd); e != api.OK {
		return deed{}, e
	}
	if o.Off < 0 || o.Off > api.MaxSize {
		return deed{}, api.ErrArg
	}
	return deed{do: func() (api.Answer, api.Errno) {
		return api.Answer{N: o.Off}, f.open.Seek(o.Fd, o.Off)
	}}, api.OK
}

// cut lets the file of a path have so many bytes.
func (f *FS) cut(o api.Op) (deed, api.Errno) {
	ino, x, e := f.leads(o.Path)
	switch {
	case e != api.OK:
		return deed{}, e
	case isDir(x):
		return deed{}, api.ErrIsDir
	case o.N < 0:
		return deed{}, api.ErrArg
	case o.N > api.MaxSize:
		return deed{}, api.ErrBig
	}
	if o.N < int(x.Size) {
		if e := f.tables(x); e != api.OK {
			return deed{}, e
		}
	}
	d := does(func() api.Errno { return file.Cut(f.Vol(), ino, o.N) })
	d.patches = true
	return d, api.OK
}
