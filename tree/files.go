package tree

import (
	"bytes"

	"scupper/api"
	"scupper/fds"
)

// openFile opens the file of a path, which comes about if it may.
func (t *Tree) openFile(o api.Op) (api.Answer, api.Errno) {
	if !mayFlag(o.Flags) {
		return api.Answer{}, api.ErrArg
	}
	at, e := t.parent(o.Path, api.ErrIsDir)
	if e != api.OK {
		return api.Answer{}, e
	}
	if e := t.mayOpen(at.id, o.Flags); e != api.OK {
		return api.Answer{}, e
	}
	if t.open.Full() {
		return api.Answer{}, api.ErrFiles
	}
	if at.id == 0 {
		at.id = t.come(api.InodeFile)
		t.name(at, at.id)
	}
	if o.Flags&api.FlagCut != 0 {
		t.nodes[at.id].resize(0)
	}
	fd, e := t.open.Open(at.id, o.Flags&(api.FlagRead|api.FlagWrite))
	return api.Answer{N: fd}, e
}

// mayFlag tells whether a file can be opened by such flags.
func mayFlag(flags int) bool {
	const known = api.FlagRead | api.FlagWrite | api.FlagCreate | api.FlagOnly | api.FlagCut
	has := func(flag int) bool { return flags&flag != 0 }
	switch {
	case has(^known):
		return false
	case !has(api.FlagRead | api.FlagWrite):
		return false
	case has(api.FlagOnly) && !has(api.FlagCreate):
		return false
	}
	return !has(api.FlagCut) || has(api.FlagWrite)
}

// mayOpen tells why the node can't be opened by such flags (0: the name is not there).
func (t *Tree) mayOpen(id, flags int) api.Errno {
	switch {
	case id == 0 && flags&api.FlagCreate == 0:
		return api.ErrNoEnt
	case id == 0:
		return api.OK
	case flags&api.FlagOnly != 0:
		return api.ErrExist
	case t.isDir(id):
		return api.ErrIsDir
	}
	return api.OK
}

// closeFile frees a place of the table; a file without names goes with the last one that had it open.
func (t *Tree) closeFile(o api.Op) (api.Answer, api.Errno) {
	f, e := t.open.Close(o.Fd)
	if e != api.OK {
		return api.Answer{}, e
	}
	t.leave(f.Ino)
	return api.Answer{}, api.OK
}

// opened is the file at a place of the table, if it was opened for that.
func (t *Tree) opened(fd, flag int) (fds.File, api.Errno) {
	f, e := t.open.Get(fd)
	if e != api.OK {
		return fds.File{}, e
	}
	if f.Mode&flag == 0 {
		return fds.File{}, api.ErrMode
	}
	return f, api.OK
}

// read tells bytes from a file's place on, and moves it behind them.
func (t *Tree) read(o api.Op) (api.Answer, api.Errno) {
	f, e := t.opened(o.Fd, api.FlagRead)
	if e != api.OK {
		return api.Answer{}, e
	}
	if o.N < 0 || o.N > api.MaxBytes {
		return api.Answer{}, api.ErrArg
	}
	data := t.nodes[f.Ino].data
	from := min(f.Pos, len(data)) // one can be beyond the end
	part := bytes.Clone(data[from:min(from+o.N, len(data))])
	return api.Answer{Data: part}, t.open.Seek(o.Fd, f.Pos+len(part))
}

// write puts bytes from a file's place on, and moves it behind them.
func (t *Tree) write(o api.Op) (api.Answer, api.Errno) {
	f, e := t.opened(o.Fd, api.FlagWrite)
	if e != api.OK {
		return api.Answer{}, e
	}
	if len(o.Data) > api.MaxBytes {
		return api.Answer{}, api.ErrArg
	}
	end := f.Pos + len(o.Data)
	if end > api.MaxSize {
		return api.Answer{}, api.ErrBig
	}
	n := t.nodes[f.Ino]
	// No bytes stand nowhere: a file does not get longer by them.
	if len(o.Data) > 0 && end > len(n.data) {
		n.resize(end)
	}
	if len(o.Data) > 0 {
		copy(n.data[f.Pos:], o.Data)
	}
	return api.Answer{N: len(o.Data)}, t.open.Seek(o.Fd, end)
}

// seek moves to a place of a file, be it beyond its end or not.
func (t *Tree) seek(o api.Op) (api.Answer, api.Errno) {
	if _, e := t.open.Get(o.Fd); e != api.OK {
		return api.Answer{}, e
	}
	if o.Off < 0 || o.Off > api.MaxSize {
		return api.Answer{}, api.ErrArg
	}
	return api.Answer{N: o.Off}, t.open.Seek(o.Fd, o.Off)
}

// cut lets the file of a path have so many bytes.
func (t *Tree) cut(o api.Op) (api.Answer, api.Errno) {
	id, e := t.Walk(o.Path)
	switch {
	case e != api.OK:
		return api.Answer{}, e
	case t.isDir(id):
		return api.Answer{}, api.ErrIsDir
	case o.N < 0:
		return api.Answer{}, api.ErrArg
	case o.N > api.MaxSize:
		return api.Answer{}, api.ErrBig
	}
	t.nodes[id].resize(o.N)
	return api.Answer{}, api.OK
}
