package tree

import (
	"scupper/api"
)

// Do does what is asked, and answers it.
func (t *Tree) Do(o api.Op) api.Answer {
	if t == nil {
		return api.Answer{Err: api.ErrNil}
	}
	a, e := t.answer(o)
	if e != api.OK {
		return api.Answer{Err: e}
	}
	return a
}

// answer does what is asked; with an error nothing is done.
func (t *Tree) answer(o api.Op) (api.Answer, api.Errno) {
	switch o.Kind {
	case api.OpOpen:
		return t.openFile(o)
	case api.OpClose:
		return t.closeFile(o)
	case api.OpRead:
		return t.read(o)
	case api.OpWrite:
		return t.write(o)
	case api.OpSeek:
		return t.seek(o)
	case api.OpCut:
		return t.cut(o)
	case api.OpMkdir:
		return t.makeDir(o)
	case api.OpRmdir:
		return t.removeDir(o)
	case api.OpLink:
		return t.link(o)
	case api.OpUnlink:
		return t.unlink(o)
	case api.OpRename:
		return t.rename(o)
	case api.OpStat:
		return t.stat(o)
	case api.OpList:
		return t.list(o)
	case api.OpFsync:
		// All that a tree has is kept as it is done, so that there is nothing to wait for.
		_, e := t.open.Get(o.Fd)
		return api.Answer{}, e
	case api.OpSync:
		return api.Answer{}, api.OK
	}
	return api.Answer{}, api.ErrArg
}

// stat tells of a node by its path.
func (t *Tree) stat(o api.Op) (api.Answer, api.Errno) {
	id, e := t.Walk(o.Path)
	if e != api.OK {
		return api.Answer{}, e
	}
	n := t.nodes[id]
	return api.Answer{Stat: api.Stat{Kind: n.kind, Size: len(n.data), Links: n.links}}, api.OK
}

// list tells the names of a directory.
func (t *Tree) list(o api.Op) (api.Answer, api.Errno) {
	id, e := t.Walk(o.Path)
	if e != api.OK {
		return api.Answer{}, e
	}
	if !t.isDir(id) {
		return api.Answer{}, api.ErrNotDir
	}
	return api.Answer{Names: t.nodes[id].rising()}, api.OK
}
