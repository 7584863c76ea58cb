package tree

import (
	"scupper/api"
	"scupper/path"
)

// spot is where the last name of a path lies: in which directory, and the node that it has there (0: none).
type spot struct {
	dir  *node
	name string
	id   int
}

// parent is where the last name of a path lies; of / the error is root.
func (t *Tree) parent(p string, root api.Errno) (spot, api.Errno) {
	names, name, e := path.Last(p)
	if e == api.ErrArg { // Last tells this of / alone
		return spot{}, root
	}
	if e != api.OK {
		return spot{}, e
	}
	id, e := t.along(names)
	if e != api.OK {
		return spot{}, e
	}
	if !t.isDir(id) {
		return spot{}, api.ErrNotDir
	}
	dir := t.nodes[id]
	return spot{dir: dir, name: name, id: dir.names[name]}, api.OK
}

// isDir tells whether the node is a directory.
func (t *Tree) isDir(id int) bool {
	return t.nodes[id].kind == api.InodeDir
}

// name lets the name there be the node's.
func (t *Tree) name(at spot, id int) {
	at.dir.names[at.name] = id
	t.nodes[id].links++
}

// unname takes the name there from the node that has it.
func (t *Tree) unname(at spot) {
	delete(at.dir.names, at.name)
	t.nodes[at.id].links--
	t.leave(at.id)
}

// makeDir makes an empty directory.
func (t *Tree) makeDir(o api.Op) (api.Answer, api.Errno) {
	at, e := t.parent(o.Path, api.ErrExist)
	if e != api.OK {
		return api.Answer{}, e
	}
	if at.id != 0 {
		return api.Answer{}, api.ErrExist
	}
	t.name(at, t.come(api.InodeDir))
	return api.Answer{}, api.OK
}

// removeDir takes the name of an empty directory.
func (t *Tree) removeDir(o api.Op) (api.Answer, api.Errno) {
	at, e := t.parent(o.Path, api.ErrBusy)
	switch {
	case e != api.OK:
		return api.Answer{}, e
	case at.id == 0:
		return api.Answer{}, api.ErrNoEnt
	case !t.isDir(at.id):
		return api.Answer{}, api.ErrNotDir
	case len(t.nodes[at.id].names) > 0:
		return api.Answer{}, api.ErrNotEmpty
	}
	t.unname(at)
	return api.Answer{}, api.OK
}

// link gives a file one more name.
func (t *Tree) link(o api.Op) (api.Answer, api.Errno) {
	id, e := t.Walk(o.Path)
	if e != api.OK {
		return api.Answer{}, e
	}
	if t.isDir(id) {
		return api.Answer{}, api.ErrIsDir
	}
	to, e := t.parent(o.To, api.ErrExist)
	switch {
	case e != api.OK:
		return api.Answer{}, e
	case to.id != 0:
		return api.Answer{}, api.ErrExist
	case t.nodes[id].links >= api.MaxLinks:
		return api.Answer{}, api.ErrLinks
	}
	t.name(to, id)
	return api.Answer{}, api.OK
}

// unlink takes one name of a file.
func (t *Tree) unlink(o api.Op) (api.Answer, api.Errno) {
	at, e := t.parent(o.Path, api.ErrIsDir)
	switch {
	case e != api.OK:
		return api.Answer{}, e
	case at.id == 0:
		return api.Answer{}, api.ErrNoEnt
	case t.isDir(at.id):
		return api.Answer{}, api.ErrIsDir
	}
	t.unname(at)
	return api.Answer{}, api.OK
}

// rename lets a node have the name To instead of Path.
func (t *Tree) rename(o api.Op) (api.Answer, api.Errno) {
	from, to, e := t.ends(o)
	if e != api.OK {
		return api.Answer{}, e
	}
	if from.id == to.id {
		return api.Answer{}, api.OK
	}
	if e := t.mayTurn(from.id, to.id); e != api.OK {
		return api.Answer{}, e
	}
	if to.id != 0 {
		t.unname(to)
	}
	t.name(to, from.id)
	t.unname(from)
	return api.Answer{}, api.OK
}

// ends is where both names of a rename lie, of which the first one is there.
func (t *Tree) ends(o api.Op) (spot, spot, api.Errno) {
	inside, e := sides(o.Path, o.To)
	if e != api.OK {
		return spot{}, spot{}, e
	}
	from, e := t.parent(o.Path, api.ErrBusy)
	switch {
	case e != api.OK:
		return spot{}, spot{}, e
	case from.id == 0:
		return spot{}, spot{}, api.ErrNoEnt
	case inside && t.isDir(from.id):
		return spot{}, spot{}, api.ErrInside
	}
	to, e := t.parent(o.To, api.ErrBusy)
	if e != api.OK {
		return spot{}, spot{}, e
	}
	return from, to, api.OK
}

// sides tells whether the path to lies inside from, neither of which may be /.
func sides(from, to string) (bool, api.Errno) {
	a, e := path.Split(from)
	if e != api.OK {
		return false, e
	}
	b, e := path.Split(to)
	if e != api.OK {
		return false, e
	}
	if len(a) == 0 || len(b) == 0 {
		return false, api.ErrBusy
	}
	return path.Inside(a, b), api.OK
}

// mayTurn tells why a name of what is another node, or none (0), can't become this node's.
func (t *Tree) mayTurn(id, was int) api.Errno {
	if was != 0 {
		switch {
		case t.isDir(id) && !t.isDir(was):
			return api.ErrNotDir
		case !t.isDir(id) && t.isDir(was):
			return api.ErrIsDir
		case len(t.nodes[was].names) > 0:
			return api.ErrNotEmpty
		}
	}
	if t.nodes[id].links >= api.MaxLinks {
		return api.ErrLinks
	}
	return api.OK
}
