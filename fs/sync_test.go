package fs_test

import (
	"fmt"
	"math/rand"
	"slices"
	"testing"

	"scupper/api"
	"scupper/dir"
)

// settled is what is pending, with the patches about or by some inodes told apart: none of these, and so many others.
func (r *rig) settled(others int, inos ...int) {
	r.t.Helper()
	for _, ino := range inos {
		r.same(fmt.Sprint("by, and about ", ino), fmt.Sprint(r.v.By(ino), r.v.About(ino)), "[] []")
	}
	n, _ := r.v.Pending()
	r.same("pending", n, others)
}

// 26.1: fsync: what is by, or about, the file, and each directory above it, settles; what has to do with others does not.
func TestFsync(t *testing.T) {
	r := fresh(t, 9, house())
	r.open("/d/f", 3, 0)
	r.open("/g", 3, 1)
	r.want(write(1, "not this"), api.Answer{N: 8})
	pending := r.next() - 1
	r.want(write(0, "this"), api.Answer{N: 4})
	r.done(mkdir("/d/m"), mkdir("/d/e/n"))
	n := r.walks("/d/e/n")
	writes := r.d.Writes()
	r.done(fsync(0))
	// What is by /d/e is neither by /d nor about it; but the inode that needs its bit, and the name that needs that, are not about /d or /. All of /d/e/n is left.
	left := len(r.v.By(7)) + len(r.v.By(n)) + 2 // with the bits of an inode, and of a block
	r.settled(pending+left, 5, 4, 1)
	r.same("written", r.d.Writes() > writes, true)
	r.same("all of /d/e/n", left, 3+1+2)
	// With a name there, too, that is above.
	r.done(link("/d/f", "/d/e/f"), fsync(0))
	r.settled(pending, 5, 7, 4, 1)
	// Nothing is left to settle.
	writes = r.d.Writes()
	r.leaves(func() { r.done(fsync(0), fsync(0)) })
	r.same("written", r.d.Writes(), writes)
	// The other one.
	r.done(fsync(1))
	r.settled(0, 2, 1)
	r.says(7, true)
	// Patches of whomever, by and about these; but not of a directory that is above no more.
	r.done(unlink("/d/e/f"), sync())
	for n, p := range []api.Patch{{Owner: 5}, {Child: 5}, {Owner: 4}, {Child: 4}, {Owner: 1}, {Child: 1}} {
		_, e := r.v.Patch(api.Patch{At: 14, Data: []byte{1}, Owner: 2})
		p.At, p.Data = 13, []byte{1}
		_, e2 := r.v.Patch(p)
		r.same("Patch", []any{e, e2}, []any{api.OK, api.OK})
		r.done(fsync(0))
		r.settled(n+1, 5, 4, 1)
	}
	for _, p := range []api.Patch{{Owner: 7}, {Child: 7}} {
		p.At, p.Data = 13, []byte{1}
		r.v.Patch(p)
	}
	r.done(fsync(0))
	r.settled(8, 5, 4, 1)
}

// 26.1: fsync of a file that has no name: what is by it, and that its names are gone.
func TestFsyncNameless(t *testing.T) {
	r := fresh(t, 9, house())
	r.open("/d/f", 3, 0)
	r.done(unlink("/d/f"), mkdir("/d/e/n"))
	r.want(write(0, "abc"), api.Answer{N: 3})
	all, _ := r.v.Pending()
	r.done(fsync(0))
	r.settled(all-3, 5)
	r.done(closing(0), sync())
	r.settled(0)
}

// 26.1: an fsync is just a settling of these patches, told by their Owner and Child; and a sync the volume's, with the groups kept of what has no names.
func TestSyncsAsLayer17(t *testing.T) {
	for seed := range int64(30) {
		d := rand.New(rand.NewSource(seed))
		g := []api.Geom{three, one, {Groups: 5, Inodes: 1, Data: 20}}[seed%3]
		a, b := fresh(t, 9, blank(g)), fresh(t, 9, blank(g))
		for i := range 120 {
			o := throw(d)
			if o.Kind == api.OpSync || o.Kind == api.OpFsync {
				o = opening(throwPath(d), 7)
			}
			a.f.Do(o)
			b.f.Do(o)
			if i%6 != 5 {
				continue
			}
			l := a.f.Open().Used()
			if i%30 == 29 || len(l) == 0 {
				a.done(sync())
				b.same("Sync", b.v.Sync(b.nameless()...), api.OK)
			} else {
				fd := l[d.Intn(len(l))]
				f, _ := b.f.Open().Get(fd)
				inos := append(b.allAbove(f.Ino), f.Ino)
				var ids []int
				graph := b.v.Graph()
				for _, id := range graph.All() {
					if p, _ := graph.Get(id); slices.Contains(inos, p.Owner) || slices.Contains(inos, p.Child) {
						ids = append(ids, id)
					}
				}
				a.done(fsync(fd))
				b.same("Settle", b.v.Settle(ids...), api.OK)
			}
			if a.state() != b.state() {
				t.Fatal("seed ", seed, ", step ", i)
			}
		}
	}
}

// allAbove is the directories from which the inode is reached, told of each directory by going down from there.
func (r *rig) allAbove(ino int) []int {
	var leads func(in int) bool
	var l []int
	leads = func(in int) bool {
		entries, _ := dir.List(r.v, in)
		is := false
		for _, e := range entries {
			if leads(e.Ino) || e.Ino == ino {
				is = true
			}
		}
		if is {
			l = append(l, in)
		}
		return is
	}
	leads(1)
	return l
}

// nameless is the sectors of inodes that are in use without links, and of all that they lead to.
func (r *rig) nameless() []int {
	var l []int
	for ino := 1; ino <= 3*r.g.Inodes*r.g.Groups; ino++ {
		x := r.inode(ino)
		if x.Kind == 0 || x.Links > 0 {
			continue
		}
		sector, _, _ := at(r.g, ino)
		l = append(l, sector)
		for _, p := range x.Direct {
			l = append(l, int(p))
		}
		l = append(l, r.below(int(x.Single), 1)...)
		l = append(l, r.below(int(x.Double), 2)...)
	}
	return l
}

// below is a sector of pointers, and all to which it leads.
func (r *rig) below(sector, levels int) []int {
	l := []int{sector}
	if levels == 0 || sector == 0 {
		return l
	}
	p, _ := r.v.Load(sector, api.KindPtrs)
	for i := range 27 {
		l = append(l, r.below(int(p[2*i])+int(p[2*i+1])<<8, levels-1)...)
	}
	return l
}

// 26.1: a sync lets nothing be pending, and the words say no group.
func TestSync(t *testing.T) {
	r := fresh(t, 9, house())
	r.has("/new", text(300))
	r.done(mkdir("/d/x"), rename("/g", "/d/x/g"), unlink("/d/f"))
	r.same("pending", r.next() > 20, true)
	r.says(3, true)
	r.done(sync())
	r.same("pending", fmt.Sprint(r.v.Pending()), "0 0")
	r.says(0, true)
	used := r.s.Used()
	r.leaves(func() { r.done(sync()) })
	r.same("used", r.s.Used(), used)
	r.bytes("/new", text(300))
}

// 26.1: the groups of a file that is open and has no names are kept: its inode's, its blocks', and those of its sectors of pointers; of what has names they are not, nor when it is closed.
func TestSyncKeeps(t *testing.T) {
	for x, groups := range map[api.Inode]uint32{
		{}:                            1,
		{Direct: [4]uint16{37}}:       5,
		{Direct: [4]uint16{9, 8, 17}}: 3,
		{Single: 25}:                  3,
		{Double: 36}:                  5,
		{Double: 7}:                   7,
	} {
		m := blank(three)
		m.dir(1, names(ent(2, "f"), ent(5, "g"), ent(7, "h")))
		x.Kind, x.Links, x.Size = isFile, 1, 64
		m.set(2, x)
		m.set(5, api.Inode{Kind: isFile, Links: 1})
		m.set(7, api.Inode{Kind: isFile, Links: 1})
		m.l[6] = sealed(api.KindPtrs, table(map[int]int{26: 20}))
		m.l[7] = sealed(api.KindPtrs, table(map[int]int{1: 6, 26: 35}))
		m.l[35] = sealed(api.KindPtrs, table(map[int]int{0: 30}))
		r := fresh(t, 9, m)
		r.open("/f", forRead, 0)
		r.open("/g", forRead, 1)
		r.open("/f", forWrite, 2)
		r.done(unlink("/f"), sync())
		r.says(groups, true)
		r.done(unlink("/g"), mkdir("/x"), sync())
		r.says(groups|2, true)
		r.done(closing(0), closing(1), sync())
		r.says(groups, true)
		// What is kept is what there is now.
		r.done(closing(2), sync())
		r.says(0, true)
		r.open("/h", 3, 0)
		r.done(unlink("/h"), sync())
		r.says(4, true)
		r.want(write(0, "abc"), api.Answer{N: 3})
		r.done(sync())
		r.says(4, true)
	}
}

// 26.1: on a disk that is not sound directories, too, can be in use and have no links.
func TestSyncKeepsDir(t *testing.T) {
	m := house()
	x := inodeOf(m.l[16][:18])
	x.Links = 0
	m.set(4, x)
	r := fresh(t, 9, m)
	r.done(mkdir("/x"), sync())
	r.says(2, true)
}

// 26.1, P2: without power: ErrDown, as it comes; what settled is settled, all is as it was, and when the power is back it goes on. What is held is told without power.
func TestSyncDown(t *testing.T) {
	for _, size := range []int{1, 2, 9, 40} {
		for _, o := range []api.Op{sync(), fsync(0)} {
			run := func(units int) int {
				r := fresh(t, size, house())
				r.open("/d/f", 3, 0)
				r.want(write(0, text(200)), api.Answer{N: 200})
				r.done(mkdir("/d/e/x"), link("/d/f", "/d/e/f"), rename("/g", "/d/e/g"))
				from := r.s.Used()
				if units >= 0 {
					r.s.Limit(units)
				}
				graph := r.graph()
				a := r.f.Do(o)
				used := r.s.Used() - from
				if units >= 0 {
					r.same("told", []any{a, r.s.Gone()}, []any{api.Answer{Err: api.ErrDown}, true})
				}
				r.same("no patch is made", r.next() >= 20, true)
				r.tells(size < 40,
					list("/d/e"), api.Answer{Names: []string{"f", "g", "x"}},
					seek(0, 1), api.Answer{N: 1},
					read(0, 199), api.Answer{Data: []byte(text(200)[1:])},
					stat("/d/e/g"), api.Answer{Stat: api.Stat{Kind: isFile, Links: 1}})
				if units == 0 {
					r.same("the graph", r.graph(), graph)
				}
				r.s.Restore()
				r.done(o)
				r.done(sync())
				r.bytes("/d/f", text(200))
				r.settled(0, 1, 2, 4, 5, 7)
				return used
			}
			all := run(-1)
			for units := range all {
				run(units)
				if t.Failed() {
					t.Fatal(short(o), " with power for ", units)
				}
			}
		}
	}
}

// tells wants answers, one behind each op; or, where that may be, ErrDown alone.
func (r *rig) tells(down bool, l ...any) {
	r.t.Helper()
	for i := 0; i < len(l); i += 2 {
		o, want := l[i].(api.Op), l[i+1].(api.Answer)
		a := r.f.Do(o)
		if !alike(a, want) && !(down && alike(a, api.Answer{Err: api.ErrDown})) {
			r.t.Errorf("%s: %+v, want %+v", short(o), a, want)
		}
	}
}

// 26.1, P2: behind a sync and an fsync that are cut off all is as layer 17 leaves it behind a settling of the same patches: what is held, changed and pinned, and what each sector is; also with the least of caches, and where it is cut off once more.
func TestSyncDownAsLayer17(t *testing.T) {
	for _, size := range []int{1, 2, 3, 9, 40} {
		for _, o := range []api.Op{sync(), fsync(0)} {
			for units := range 40 {
				a, b := fresh(t, size, house()), fresh(t, size, house())
				for _, r := range []*rig{a, b} {
					r.open("/d/f", 3, 0)
					r.want(write(0, text(200)), api.Answer{N: 200})
					r.done(mkdir("/d/e/x"), link("/d/f", "/d/e/f"), unlink("/d/f"), unlink("/d/e/f"), rename("/g", "/d/e/g"))
					r.pins(size, 33)
					r.s.Limit(units)
				}
				for range 2 {
					want := api.Answer{Err: b.likewise(o)}
					if size < 40 && want.Err == api.OK {
						continue
					}
					a.want(o, want)
					a.same("changed", a.v.Changed(), b.v.Changed())
					if size == 40 {
						x, y := a.v.Held(), b.v.Held()
						slices.Sort(x)
						slices.Sort(y)
						a.same("held", x, y)
					}
					if size > 1 {
						a.same("Unpin", []any{a.v.Unpin(33), a.v.Unpin(33)}, []any{api.OK, api.ErrNone})
						a.same("Pin", []any{a.v.Pin(33), b.v.Unpin(33), b.v.Pin(33)}, []any{api.OK, api.OK, api.OK})
					}
					a.same("all", a.state() == b.state(), true)
					if size < 40 {
						break // what can't be read any more, to know what to settle, is not settled once more
					}
				}
				if t.Failed() {
					t.Fatal(short(o), " with power for ", units, ", and a cache of ", size)
				}
			}
		}
	}
}

// pins holds and pins a sector, if there is room for others beside it.
func (r *rig) pins(size, sector int) {
	if size > 1 {
		_, e := r.v.Get(sector)
		r.same("Get, Pin", []any{e, r.v.Pin(sector)}, []any{api.OK, api.OK})
	}
}

// likewise does what layer 17 does for a sync, or for an fsync of place 0.
func (r *rig) likewise(o api.Op) api.Errno {
	if o.Kind == api.OpSync {
		return r.v.Sync(r.nameless()...)
	}
	file, _ := r.f.Open().Get(0)
	var ids []int
	for _, ino := range append(r.allAbove(file.Ino), file.Ino) {
		ids = append(append(ids, r.v.By(ino)...), r.v.About(ino)...)
	}
	return r.v.Settle(ids...)
}

// 26.1: what somebody else put into the cache is left there, when a sync is cut off.
func TestSyncDownLeavesOthers(t *testing.T) {
	r := fresh(t, 9, house())
	r.done(mkdir("/x"))
	b := api.Block{1, 2, 3}
	r.same("Put", r.v.Put(30, b), api.OK)
	r.s.Limit(0)
	r.want(sync(), api.Answer{Err: api.ErrDown})
	r.same("changed", slices.Contains(r.v.Changed(), 30), true)
	now, e := r.v.Now(30)
	r.same("sector 30", []any{now, e}, []any{b, api.OK})
}
