package alloc_test

import (
	"fmt"
	"testing"

	"scupper/alloc"
	"scupper/api"
	"scupper/vol"
)

// dice is numbers that look as if they were drawn, and are the same in each run.
type dice uint64

func (d *dice) below(n int) int {
	*d = *d*6364136223846793005 + 1442695040888963407
	return int(uint64(*d)>>33) % n
}

// load is maps of which about so many in four places are taken, with some bits beyond them.
func (d *dice) load(taken int) api.Load {
	var p api.Load
	for n := range len(p) * 8 {
		if d.below(4) < taken {
			p[n/8] |= 1 << (n % 8)
		}
	}
	return p
}

// The chapter's words once more, on a volume of its own: each place is asked for by itself, by its bit in the sector's bytes now.

// bit is where a place's bit lies, and whether the shape has that place.
func (r *rig) bit(kind, group, i int) (off int, mask byte, in bool) {
	if group < 0 || group >= r.g.Groups || i < 0 {
		return 0, 0, false
	}
	switch kind {
	case api.KindRaw:
		return i / 8, 1 << (i % 8), i < r.g.Data
	case api.KindInode:
		return 16 + i/8, 1 << (i % 8), i < 3*r.g.Inodes
	}
	return 0, 0, false
}

func (r *rig) isFree(kind, group, i int) bool {
	off, mask, in := r.bit(kind, group, i)
	if !in {
		return false
	}
	p, e := r.v.Load(mapsAt(r.g, group), api.KindMaps)
	return e == api.OK && p[off]&mask == 0
}

// count is how many places of a kind are free.
func (r *rig) count(kind int) int {
	n := 0
	for _, p := range round(r.g, kind, 0) {
		if r.isFree(kind, p[0], p[1]) {
			n++
		}
	}
	return n
}

// take takes a place by the words of the chapter.
func (r *rig) take(kind, group int) (int, int, api.Errno) {
	if group < 0 || group >= r.g.Groups {
		return 0, 0, api.ErrArg
	}
	for _, p := range round(r.g, kind, group) {
		if !r.isFree(kind, p[0], p[1]) {
			continue
		}
		at := mapsAt(r.g, p[0])
		if e := r.v.Mark(at); e != api.OK {
			return 0, 0, e
		}
		off, mask, _ := r.bit(kind, p[0], p[1])
		id, e := r.v.Patch(api.Patch{At: at, Off: off, Data: []byte{r.load(p[0])[off] | mask}, Kind: api.KindMaps})
		if kind == api.KindRaw {
			return dataAt(r.g, p[0], p[1]), id, e
		}
		return inoAt(r.g, p[0], p[1]), id, e
	}
	return 0, 0, api.ErrSpace
}

// step does one thing to the volume by the calls, and to the model by the words, and tells what both answer.
func step(d *dice, r, m *rig, last int) (string, any, any) {
	list := func(l ...any) []any { return l }
	group := d.below(r.g.Groups+2) - 1
	kind := []int{api.KindRaw, api.KindInode}[d.below(2)]
	switch d.below(16) {
	case 0, 1, 2, 3:
		return fmt.Sprint("Block ", group), list(alloc.Block(r.v, group)), list(m.take(api.KindRaw, group))
	case 4, 5:
		return fmt.Sprint("Inode ", group), list(alloc.Inode(r.v, group)), list(m.take(api.KindInode, group))
	case 6:
		return "Avail", list(alloc.Avail(r.v)), list(m.count(api.KindRaw), m.count(api.KindInode))
	case 7, 8:
		i := d.below(r.g.Data+4) - 2
		return fmt.Sprint("Free ", kind, group, i), alloc.Free(r.v, kind, group, i), m.isFree(kind, group, i)
	case 9, 10:
		f := vol.Free{Blocks: []int{d.below(r.d.Len()), d.below(r.d.Len())}, Ino: d.below(3*r.g.Groups*r.g.Inodes + 1), After: []int{last}}
		return fmt.Sprint("Later ", f), r.v.Later(f), m.v.Later(f)
	case 11:
		p := api.Patch{At: mapsAt(r.g, d.below(r.g.Groups)), Off: d.below(18), Data: []byte{byte(d.below(256))}, Kind: []int{api.KindMaps, api.KindMaps, api.KindHead, api.KindRaw}[d.below(4)]}
		return fmt.Sprint("Patch ", p), list(r.v.Patch(p)), list(m.v.Patch(p))
	case 12:
		return fmt.Sprint("Settle ", last), r.v.Settle(last, last-2), m.v.Settle(last, last-2)
	case 13:
		return "Sync", r.v.Sync(), m.v.Sync()
	case 14:
		n := d.below(7)
		return fmt.Sprint("Limit ", n), r.s.Limit(n), m.s.Limit(n)
	}
	r.s.Restore()
	m.s.Restore()
	return "Restore", nil, nil
}

// 18.1, 18.2: long runs on disks of several shapes, with groups that there are not, frees, patches that turn maps, settling, and the power going and coming back: each answer, and all that is left, as the chapter's words tell it.
func TestAsTheWords(t *testing.T) {
	shapes := []api.Geom{three, {Groups: 1, Inodes: 1, Data: 4}, {Groups: 2, Inodes: 2, Data: 11}, {Groups: 4, Inodes: 1, Data: 8}}
	for seed := range 100 {
		dice := dice(seed + 1)
		g := shapes[seed%len(shapes)]
		var loads []api.Load
		for range g.Groups {
			loads = append(loads, dice.load(dice.below(4)))
		}
		r, m := fresh(t, g, loads...), fresh(t, g, loads...)
		var told []string
		for range 45 {
			last := 0
			if l := r.v.Graph().All(); len(l) > 0 {
				last = l[len(l)-1]
			}
			what, got, want := step(&dice, r, m, last)
			told = append(told, what)
			r.same("the answer", got, want)
			r.same("what is left", r.state() == m.state(), true)
			if t.Failed() {
				t.Fatalf("seed %d: %q", seed, told)
			}
		}
	}
}

// all is of all places whether they are free.
func (r *rig) all() map[[3]int]bool {
	l := map[[3]int]bool{}
	for _, kind := range []int{api.KindRaw, api.KindInode} {
		for _, p := range round(r.g, kind, 0) {
			l[[3]int{kind, p[0], p[1]}] = alloc.Free(r.v, kind, p[0], p[1])
		}
	}
	return l
}

// sum is how many of a kind are free.
func sum(l map[[3]int]bool, kind int) int {
	n := 0
	for p, free := range l {
		if free && p[0] == kind {
			n++
		}
	}
	return n
}

// 18.3: what is taken was free, and is free no more; no other place is changed, and no other byte of a sector now; one fewer of its kind is free. When none is, nothing is changed.
func TestOne(t *testing.T) {
	g := api.Geom{Groups: 3, Inodes: 4, Data: 30}
	for seed := range 40 {
		dice := dice(seed + 9000)
		r := of(t, g, []int{1, 5, 64}[seed%3], blank(g, dice.load(3), dice.load(3), dice.load(seed%5)))
		for range 40 {
			n, group := dice.below(2), dice.below(3)
			was, loads := r.all(), [3]api.Load{r.load(0), r.load(1), r.load(2)}
			got, _, e := calls[n].take(r, group)
			if e == api.OK {
				p := r.placeOf(n, got)
				r.same("it was free", was[p], true)
				was[p] = false
				off, mask, _ := r.bit(p[0], p[1], p[2])
				loads[p[1]][off] |= mask
			} else {
				r.same("without a free one", []any{e, sum(was, calls[n].kind)}, []any{api.ErrSpace, 0})
			}
			r.same("all places", r.all(), was)
			r.same("all maps", [3]api.Load{r.load(0), r.load(1), r.load(2)}, loads)
			r.avail(sum(was, api.KindRaw), sum(was, api.KindInode))
			if dice.below(5) == 0 {
				r.same("Sync", r.v.Sync(), api.OK)
			}
		}
		if t.Failed() {
			t.Fatalf("seed %d", seed)
		}
	}
}

// placeOf is the place of what a call took, looked for among all that there are.
func (r *rig) placeOf(n, at int) [3]int {
	for _, p := range round(r.g, calls[n].kind, 0) {
		if calls[n].where(r.g, p[0], p[1]) == at {
			return [3]int{calls[n].kind, p[0], p[1]}
		}
	}
	r.t.Errorf("call %d: %d is no place", n, at)
	return [3]int{}
}
