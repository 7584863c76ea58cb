package dir_test

import (
	"fmt"
	"slices"
	"testing"

	"scupper/api"
	"scupper/bmap"
	"scupper/dir"
	"scupper/disk"
	"scupper/nvram"
	"scupper/seal"
	"scupper/vol"
)

// dice is numbers that look as if they were drawn, and are the same in each run.
type dice uint64

func (d *dice) below(n int) int {
	*d = *d*6364136223846793005 + 1442695040888963407
	return int(uint64(*d)>>33) % n
}

// name is one of a few, and now and then none.
func (d *dice) name() string {
	if d.below(25) == 0 {
		return noNames[d.below(len(noNames))]
	}
	return fmt.Sprint("n", d.below(40))
}

// The chapter's words once more, on a volume of its own.

// walk goes along a block's way: the block's sector, 0 if there is none; how many sectors are missing; and whether a sector of pointers on it is not right.
func (r *rig) walk(x api.Inode, k int) (sector, missing int, wrong bool) {
	w := wayOf(k)
	to := int(own(x)[w[0]])
	for n, i := range w[1:] {
		if to == 0 {
			return 0, len(w) - n, false
		}
		p, e := r.v.Load(to, api.KindPtrs)
		if e != api.OK {
			return 0, len(w) - n - 1, true
		}
		to = int(p[2*i]) + int(p[2*i+1])<<8
	}
	return to, 1, false
}

// placed is a slot of a directory: its sector, its number there, its entry; without a name, if it is empty.
type placed struct {
	sector, i int
	e         api.Entry
}

// placedOf is all slots of a directory that are right or empty.
func (r *rig) placedOf(x api.Inode) []placed {
	var l []placed
	for k := 0; 64*k < int(x.Size) && k < api.MaxBlocks; k++ {
		sector, _, _ := r.walk(x, k)
		if sector == 0 {
			continue
		}
		p, e := r.v.Load(sector, api.KindDir)
		if e != api.OK {
			continue
		}
		for i := range 4 {
			b := p[13*i : 13*i+13]
			x := ent(int(b[0])+int(b[1])<<8, string(b[3:3+min(int(b[2]), 10)]))
			if slices.Max(b) == 0 || x.Ino != 0 && isName(x.Name) && slices.Equal(b, bytes13(x)) {
				l = append(l, placed{sector, i, x})
			}
		}
	}
	return l
}

// isName is by the words of chapter 12.
func isName(s string) bool {
	for _, c := range []byte(s) {
		if c < 33 || c > 126 || c == '/' {
			return false
		}
	}
	return len(s) >= 1 && len(s) <= 10 && s != "." && s != ".."
}

// opened is the inode, and what is told of it, where the other arguments are refused so.
func (r *rig) opened(ino int, args api.Errno) (api.Inode, api.Errno) {
	if ino < 1 || ino > 3*r.g.Inodes*r.g.Groups {
		return api.Inode{}, api.ErrArg
	}
	sector, off, _ := at(r.g, ino)
	p, e := r.v.Load(sector, api.KindInode)
	x := inodeOf(p[off : off+18])
	switch {
	case e == api.OK && x.Kind != 2:
		return x, api.ErrNotDir
	case args != api.OK:
		return x, args
	}
	return x, e
}

// refused is what is told of an entry's inode and name.
func refused(ino int, name string) api.Errno {
	switch {
	case ino < 1 || ino > 65535:
		return api.ErrArg
	case !isName(name):
		return api.ErrName
	}
	return api.OK
}

func (r *rig) list(ino int) (l []api.Entry, e api.Errno) {
	x, e := r.opened(ino, api.OK)
	if e != api.OK {
		return nil, e
	}
	for _, p := range r.placedOf(x) {
		if p.e.Name != "" {
			l = append(l, p.e)
		}
	}
	return l, api.OK
}

// named is the first slot of that name.
func (r *rig) named(ino, to int, name string) (placed, api.Errno) {
	x, e := r.opened(ino, refused(to, name))
	if e != api.OK {
		return placed{}, e
	}
	for _, p := range r.placedOf(x) {
		if p.e.Name == name {
			return p, api.OK
		}
	}
	return placed{}, api.ErrNoEnt
}

// lostOf is the losses of a directory.
func (r *rig) lostOf(ino int) []int {
	var l []int
	g := r.v.Graph()
	for _, id := range g.All() {
		p, _ := g.Get(id)
		if p.Owner == ino && p.Kind == 6 && len(p.Data) == 13 && slices.Max(p.Data) == 0 {
			l = append(l, id)
		}
	}
	return l
}

func (r *rig) cost(ino int) int {
	x, e := r.opened(ino, api.OK)
	if e != api.OK || slices.ContainsFunc(r.placedOf(x), func(p placed) bool { return p.e.Name == "" }) {
		return 0
	}
	k := (int(x.Size) + 63) / 64
	if k >= api.MaxBlocks {
		return 0
	}
	_, n, _ := r.walk(x, k)
	return n
}

// lay is a patch of a slot that needs these, where they may be.
func (r *rig) lay(p placed, data []byte, ino, child int, needs []int) (int, api.Errno) {
	if slices.ContainsFunc(needs, func(n int) bool { return n < 1 || n >= r.next() }) {
		return 0, api.ErrArg
	}
	return r.v.Patch(slot(p.sector, p.i, 0, data, ino, child, needs...))
}

func (r *rig) take(ino int, name string, needs []int) (int, api.Errno) {
	p, e := r.named(ino, 1, name)
	if e != api.OK {
		return 0, e
	}
	return r.lay(p, make([]byte, 13), ino, p.e.Ino, needs)
}

func (r *rig) turn(ino int, name string, to int, needs []int) (int, api.Errno) {
	p, e := r.named(ino, to, name)
	if e != api.OK {
		return 0, e
	}
	return r.lay(p, two(to), ino, to, append(slices.Clone(needs), r.lostOf(ino)...))
}

func (r *rig) add(ino int, e api.Entry, needs []int) (int, api.Errno) {
	_, err := r.named(ino, e.Ino, e.Name)
	if err == api.OK {
		return 0, api.ErrExist
	}
	if err != api.ErrNoEnt {
		return 0, err
	}
	all := append(slices.Clone(needs), r.lostOf(ino)...)
	x, _ := r.opened(ino, api.OK)
	for _, p := range r.placedOf(x) {
		if p.e.Name == "" {
			return r.lay(p, bytes13(e), ino, e.Ino, all)
		}
	}
	k := (int(x.Size) + 63) / 64
	if k >= api.MaxBlocks {
		return 0, api.ErrBig
	}
	sector, cost, wrong := r.walk(x, k)
	switch {
	case sector != 0:
		return 0, api.ErrArg
	case cost > r.free():
		return 0, api.ErrSpace
	case wrong:
		return 0, api.ErrSeal
	case slices.ContainsFunc(needs, func(n int) bool { return n < 1 || n > r.next() }):
		return 0, api.ErrArg
	}
	_, id, err := bmap.Put(r.v, ino, k, bmap.Content{Data: bytes13(e), Kind: 6, Needs: all, Child: e.Ino})
	if err != api.OK {
		return 0, err
	}
	return r.v.Patch(size(r.g, ino, int(x.Size)+64, id))
}

// step does one thing to the volume by the calls, and to the model by the words, and tells what both answer.
func step(d *dice, r, m *rig) (string, any, any) {
	list := func(l ...any) string { return fmt.Sprint(l...) }
	ino, name, to := 1+d.below(5), d.name(), 1+d.below(900)
	if d.below(30) == 0 {
		ino = []int{0, -1, 3*r.g.Inodes*r.g.Groups + 1}[d.below(3)]
	}
	if d.below(30) == 0 {
		to = noEntries[d.below(len(noEntries))]
	}
	var needs []int
	for range d.below(3) {
		needs = append(needs, 1+d.below(r.next()))
	}
	if d.below(4) > 0 {
		needs = slices.DeleteFunc(needs, func(n int) bool { return n >= r.next() })
	}
	both := func(p api.Patch) (string, any, any) {
		return list("patch ", p), list(r.v.Patch(p)), list(m.v.Patch(p))
	}
	switch n := d.below(22); n {
	case 0:
		return list("List ", ino), list(dir.List(r.v, ino)), list(m.list(ino))
	case 1:
		p, e := m.named(ino, 1, name)
		return list("Find ", ino, name), list(dir.Find(r.v, ino, name)), list(p.e.Ino, e)
	case 2:
		return list("Cost ", ino), dir.Cost(r.v, ino), m.cost(ino)
	case 3:
		return list("Losses ", ino), list(dir.Losses(r.v, ino)), list(m.lostOf(ino))
	case 4, 5, 6, 7:
		return list("Take ", ino, name, needs), list(dir.Take(r.v, ino, name, needs...)), list(m.take(ino, name, needs))
	case 8, 9:
		return list("Turn ", ino, name, to, needs), list(dir.Turn(r.v, ino, name, to, needs...)), list(m.turn(ino, name, to, needs))
	case 10:
		return "Sync", r.v.Sync(), m.v.Sync()
	case 11:
		id := 1 + d.below(r.next())
		return list("Settle ", id), r.v.Settle(id), m.v.Settle(id)
	case 12:
		if d.below(3) > 0 {
			return "nothing", 0, 0
		}
		// An inode is what it was not, or its size is another one.
		if l := []int{1, 2, 2, 2}; d.below(2) == 0 {
			return both(set(r.g, 1+d.below(5), 0, []byte{byte(l[d.below(4)])}, 0))
		}
		return both(size(r.g, 1+d.below(5), []int{0, 64, 64 * d.below(9), 64 * 31, 64*d.below(761) + d.below(64), api.MaxSize}[d.below(6)]))
	case 13:
		if d.below(4) > 0 {
			return "nothing", 0, 0
		}
		// A byte somewhere is another one: of names, of a sector's seal.
		kind := []int{0, 6, 6, 6}[d.below(4)]
		return both(api.Patch{At: dataAt(r.g, 0, d.below(r.g.Data)), Off: d.below(54), Data: []byte{byte(d.below(3) * 50)}, Kind: kind, Owner: d.below(4)})
	}
	e := ent(to, name)
	return list("Add ", ino, e, needs), list(dir.Add(r.v, ino, e, needs...)), list(m.add(ino, e, needs))
}

// 22.1, 22.2: long runs on disks of several shapes, with inodes, names and needs that there are not, inodes and slots that turn wrong, sectors of pointers and blocks that are, and until there is no space: each answer, and all that is left, as the chapter's words tell it.
func TestAsTheWords(t *testing.T) {
	for seed := range 48 {
		dice := dice(seed + 1)
		g := []api.Geom{three, one, {Groups: 2, Inodes: 1, Data: 12}, {Groups: 4, Inodes: 2, Data: 4}}[seed%4]
		i := blank(g)
		if g.Data*g.Groups > 20 {
			f := i.dir(2, 64*(4+seed%3), fulls(4+seed%3)...)
			i.dir(3, 64*33, held{0, full(3)}, held{1, full(3)}, held{4, full(1)}, held{31, names(nth(1))})
			if seed/4%3 == 0 && f.tables[0] != 0 {
				i.l[f.tables[0]] = wrong(api.KindPtrs)[seed/3%14]
			}
			if seed/4%3 == 1 {
				i.l[f.block[1]] = wrong(api.KindDir)[seed/3%14]
			}
		}
		held := []int{1, 3, api.MaxCache}[seed/4%3]
		r, m := fresh(t, held, i), fresh(t, held, i)
		var told []string
		for range 120 {
			what, got, want := step(&dice, r, m)
			told = append(told, what)
			r.same("the answer", got, want)
			r.same("what is left", r.state() == m.state(), true)
			if t.Failed() {
				t.Fatalf("seed %d: %q", seed, told)
			}
		}
	}
}

// shelf is a directory as it should be: its slots in order, such as are empty without a name.
type shelf []api.Entry

// room is the first slot that is empty, behind all if there is none.
func (s *shelf) room() int {
	for i, e := range *s {
		if e.Name == "" {
			return i
		}
	}
	*s = append(*s, make([]api.Entry, 4)...)
	return len(*s) - 4
}

func (s shelf) find(name string) int {
	return slices.IndexFunc(s, func(e api.Entry) bool { return e.Name == name })
}

func (s shelf) entries() []api.Entry {
	return slices.DeleteFunc(slices.Clone(s), func(e api.Entry) bool { return e.Name == "" })
}

// 22.3, 22.4: long runs on several directories beside each other, while patches settle or not, also with a volume that is made anew: what was added is found and listed, what was taken is not, all other names are as they were; and a directory has just as many blocks as the most names that it had at once need.
func TestNames(t *testing.T) {
	for seed := range 12 {
		dice := dice(seed + 500)
		g := []api.Geom{three, {Groups: 2, Inodes: 2, Data: 30}, {Groups: 1, Inodes: 1, Data: 128}}[seed%3]
		m := blank(g)
		var shelves [4]shelf
		var most [4]int
		if seed%3 == 2 {
			m.dir(2, 64*30, fulls(30)...)
			shelves[2], most[2] = nths(0, 120), 120
		}
		r := fresh(t, []int{1, 5, api.MaxCache}[seed%3], m)
		grow := 0
		for n := range 250 {
			if n%40 == 0 {
				grow = 1 + dice.below(9) // now more names come, now more go
			}
			ino := 1 + dice.below(3)
			s := &shelves[ino]
			name := fmt.Sprint("n", dice.below([]int{6, 40, 400}[seed/3%3]))
			e := ent(1+dice.below(65535), name)
			at := s.find(name)
			switch {
			case dice.below(12) == 0:
				r.settles(1 + dice.below(r.next()))
			case dice.below(12) == 0:
				r.again()
			case at >= 0 && dice.below(3) == 0:
				r.turns(ino, name, e.Ino, r.next(), api.OK)
				(*s)[at].Ino = e.Ino
			case dice.below(10) < grow:
				r.shelved(s, ino, e)
			default:
				if at >= 0 {
					r.takes(ino, name, r.next(), api.OK)
					(*s)[at] = api.Entry{}
				} else {
					r.leaves(func() { r.takes(ino, name, 0, api.ErrNoEnt) })
				}
			}
			taken := 0
			for ino := 1; ino <= 3; ino++ {
				l := shelves[ino].entries()
				most[ino] = max(most[ino], len(l))
				r.has(ino, l...)
				x := r.inode(ino)
				r.same("its size", x.Size, 64*((most[ino]+3)/4))
				taken += len(bmap.Blocks(r.v, x)) + len(bmap.Tables(r.v, x))
				r.same("its blocks", len(bmap.Blocks(r.v, x)), (most[ino]+3)/4)
			}
			r.same("free", r.free(), g.Groups*g.Data-taken)
			if e := shelves[ino].find(name); e >= 0 {
				r.finds(ino, name, shelves[ino][e].Ino, api.OK)
			} else {
				r.finds(ino, name, 0, api.ErrNoEnt)
			}
			if t.Failed() {
				t.Fatalf("seed %d, step %d", seed, n)
			}
		}
	}
}

// shelved is an Add, OK or not as it should be.
func (r *rig) shelved(s *shelf, ino int, e api.Entry) {
	r.t.Helper()
	free, cost := r.free(), dir.Cost(r.v, ino)
	if s.find(e.Name) >= 0 {
		r.leaves(func() { r.adds(ino, e, 0, api.ErrExist) })
		return
	}
	if cost > free {
		r.leaves(func() { r.adds(ino, e, 0, api.ErrSpace) })
		return
	}
	id := r.next()
	if cost > 0 {
		id += 2*cost + 1
	}
	r.adds(ino, e, id, api.OK)
	r.same("free", r.free(), free-cost)
	(*s)[s.room()] = e
}

// again is the volume made anew of what is stable behind a Sync.
func (r *rig) again() {
	r.t.Helper()
	r.syncs()
	l := r.d.Image()
	r.d, _ = disk.New(len(l), r.s)
	r.d.Load(l)
	r.w = nvram.New(r.s)
	r.w.Clear()
	v, e := vol.New(r.d, r.w, 7)
	r.same("New", e, api.OK)
	r.v = v
}

// story is what was done to a directory, in order: the names that came and that went.
type story []event

type event struct {
	name string
	came bool
}

// 22.2, 22.3: wherever the power goes while patches settle, and whatever waits on the disk comes about: a name that came is there only where all that went ahead of it is not; no name is there that did not come, or twice; and each block to which a pointer leads is right, and taken.
func TestAnyCrash(t *testing.T) {
	for seed := range 40 {
		for units := 0; ; units++ {
			dice := dice(seed*7919 + 11)
			m := blank(three)
			m.dir(1, 128, fulls(2)...)
			r := fresh(t, []int{2, 9, 40}[seed%3], m)
			var l story
			for _, e := range nths(0, 8) {
				l = append(l, event{e.Name, true})
			}
			r.deal(&dice, &l, 14)
			r.s.Limit(units + 3*3) // the words need some
			e := r.v.Settle(1 + dice.below(r.next()-1))
			if e == api.OK {
				r.deal(&dice, &l, 10)
				e = r.v.Settle(1 + dice.below(r.next()-1))
			}
			if e == api.OK {
				e = r.v.Sync()
			}
			keep := make([]int, r.d.Len())
			for i := range keep {
				keep[i] = (units + i*seed) % 3
			}
			r.d.Crash(keep)
			r.sound(l)
			if t.Failed() {
				t.Fatalf("seed %d, %d units", seed, units)
			}
			if e == api.OK {
				break
			}
		}
	}
}

// deal lets names come and go; each comes once.
func (r *rig) deal(d *dice, l *story, times int) {
	for range times {
		at := d.below(len(*l))
		name := (*l)[at].name
		if d.below(2) == 0 {
			name = fmt.Sprint("m", len(*l))
			if _, e := dir.Add(r.v, 1, ent(1+len(*l), name)); e == api.OK {
				*l = append(*l, event{name, true})
			}
		} else if _, e := dir.Take(r.v, 1, name); e == api.OK {
			*l = append(*l, event{name, false})
		}
	}
}

// sound holds the directory, as it is stable, against its story.
func (r *rig) sound(l story) {
	r.t.Helper()
	all := r.d.Image()
	p, _, _ := seal.Get(api.KindInode, all[4])
	x := inodeOf(p[:18])
	d, _ := disk.New(len(all), nil)
	d.Load(all)
	v, _ := vol.New(d, nvram.New(nil), 9)
	for _, h := range bmap.Blocks(v, x) {
		_, _, e := seal.Get(api.KindDir, all[h.Sector])
		group := (h.Sector - 2) / 12
		i := h.Sector - dataAt(three, group, 0)
		m, _, _ := seal.Get(api.KindMaps, all[mapsAt(three, group)])
		r.same("a block", []any{e, m[i/8] >> (i % 8) & 1}, []any{api.OK, 1})
	}
	names, e := dir.List(v, 1)
	r.same("List", e, api.OK)
	there := map[string]int{}
	for _, e := range names {
		there[e.Name]++
	}
	for name, n := range there {
		r.same("how often "+name+" is there, and came", []any{n, slices.Contains(l, event{name, true})}, []any{1, true})
	}
	var went []string
	for _, s := range l {
		if !s.came {
			went = append(went, s.name)
			continue
		}
		for _, name := range went {
			if there[s.name] > 0 && there[name] > 0 {
				r.t.Errorf("%s is there, and %s, which went ahead of it, too", s.name, name)
			}
		}
	}
}
