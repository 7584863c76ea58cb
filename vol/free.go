package vol

import (
	"slices"

	"scupper/api"
	"scupper/geom"
	"scupper/maps"
)

// Free is sectors of data and an inode (0: none) that are free once the patches After are stable.
type Free struct {
	After, Blocks []int
	Ino           int
}

// release is a Free as it is kept: what is no sector of data, and an inode that there is not, are let go.
type release struct {
	after  []int
	places []place // those that are not given back yet, in order
}

// place is where in some group's maps a bit lies, of a sector of data or of an inode.
type place struct {
	group, kind, index int
}

// Later is a free more, and marks the groups of all that it gives back, as far as the power lasts. Where one can't be marked it is a free all the same.
func (v *Vol) Later(f Free) api.Errno {
	if v == nil {
		return api.ErrNil
	}
	places := v.places(f)
	v.frees = append(v.frees, release{after: slices.Clone(f.After), places: places})
	for _, p := range places {
		if e := v.words.Mark(p.group); e != api.OK {
			return e
		}
	}
	return api.OK
}

// places is what f gives back, in order.
func (v *Vol) places(f Free) []place {
	var l []place
	for _, sector := range f.Blocks {
		if p, e := geom.Where(v.shape, sector); e == api.OK && p.Kind == api.KindRaw {
			l = append(l, place{group: p.Group, kind: api.KindRaw, index: p.Index})
		}
	}
	if s, e := geom.Inode(v.shape, f.Ino); e == api.OK {
		l = append(l, place{group: s.Group, kind: api.KindInode, index: s.Index})
	}
	return l
}

// waits is whether one of the patches behind which r comes is in the graph.
func (v *Vol) waits(r release) bool {
	return slices.ContainsFunc(r.after, func(id int) bool {
		_, e := v.patches.Get(id)
		return e == api.OK
	})
}

// finishThose does the frees that is tells, in order, and keeps the others. Each is asked when its turn comes, since what is done ahead of it makes patches.
func (v *Vol) finishThose(is func(release) bool) api.Errno {
	all := v.frees
	v.frees = nil
	for i, r := range all {
		if !is(r) {
			v.frees = append(v.frees, r)
			continue
		}
		if left, e := v.finish(r.places); e != api.OK {
			// What is given back is not given back again: by then it may be taken anew.
			if len(left) > 0 {
				v.frees = append(v.frees, release{after: r.after, places: left})
			}
			v.frees = append(v.frees, all[i+1:]...)
			return e
		}
	}
	return api.OK
}

// finish gives places back, one by one, till there is an error; and tells those that are not given back then.
func (v *Vol) finish(places []place) ([]place, api.Errno) {
	for i, p := range places {
		c, e := v.clearing(p)
		if e == api.ErrSeal {
			continue // nothing is taken or free by maps that are not right
		}
		if e != api.OK {
			return places[i:], e
		}
		// With an error, too, the patch is in the graph, so that the place is given back.
		if _, e := v.Patch(c); e != api.OK {
			return places[i+1:], e
		}
	}
	return nil, api.OK
}

// clearing is the patch by which p is not taken.
func (v *Vol) clearing(p place) (api.Patch, api.Errno) {
	at, _ := geom.Maps(v.shape, p.group) // a place's group is one
	was, e := v.Load(at, api.KindMaps)
	if e != api.OK {
		return api.Patch{}, e
	}
	now, _ := maps.With(was, p.kind, p.index, false) // and its index, too
	off, _ := maps.Byte(p.kind, p.index)
	return api.Patch{At: at, Off: off, Data: now[off : off+1], Kind: api.KindMaps}, api.OK
}
