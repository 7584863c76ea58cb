package fs_test

import (
	"fmt"
	"math/bits"
	"math/rand"
	"slices"
	"testing"

	"scupper/alloc"
	"scupper/api"
	"scupper/fs"
	"scupper/nvram"
)

// feat is something that is asked, on a disk that is made for it, behind some other things, and the groups that are marked by it.
type feat struct {
	name   string
	disk   *image
	first  []api.Op
	o      api.Op
	groups uint32
}

// scattered is the disk of most feats: of group 0 nothing is free, of group 1 one sector, of group 2 all sectors but two. The root's names are full: d (inode 4), f (inode 2), h (inode 3) and k (inode 7, a directory without names); those of /d lie in group 1. /f has a block in group 2, and one of pointers.
func scattered() *image {
	m := blank(three)
	m.dir(1, names(ent(4, "d"), ent(2, "f"), ent(3, "h"), ent(7, "k")))
	m.dir(4, names(ent(2, "f"), ent(8, "e")))
	m.set(2, api.Inode{Kind: isFile, Links: 2, Size: 64 * 9, Direct: [4]uint16{uint16(m.take(2))}, Single: uint16(m.pointers(2, 0))})
	m.set(3, api.Inode{Kind: isFile, Links: 1, Size: 64, Direct: [4]uint16{uint16(m.take(0))}})
	m.dir(7)
	m.dir(8)
	for range 7 {
		m.take(0)
	}
	for range 7 {
		m.take(1)
	}
	return m
}

// apart is a disk whose directories lie in several groups each: of /d (inode 4, of group 1) the one block, without names, is of group 2; of /k (inode 7, of group 2), whose slots are full, the sector of pointers is of group 0. Of group 0 alone the maps have something free, but for one inode.
func apart() *image {
	m := blank(three)
	m.dir(1, names(ent(4, "d"), ent(7, "k"), ent(3, "h")))
	m.set(3, api.Inode{Kind: isFile, Links: 17})
	m.set(4, api.Inode{Kind: isDir, Links: 1, Size: 64, Direct: [4]uint16{uint16(m.take(2))}})
	m.l[29] = sealed(api.KindDir, api.Load{})
	full := names(ent(3, "1"), ent(3, "2"), ent(3, "3"), ent(3, "4"))
	m.dir(7, full, full, full, full)
	x := inodeOf(m.l[28][:18])
	x.Single = uint16(m.pointers(0, 0))
	m.set(7, x)
	return m
}

// beyond is a disk whose root has a block of group 0, and one of group 1: there are y, a directory of group 2, and z, a file of group 0.
func beyond() *image {
	m := blank(three)
	m.set(1, api.Inode{Kind: isDir, Links: 1, Size: 128, Direct: [4]uint16{uint16(m.take(0)), uint16(m.take(1))}})
	m.l[5] = sealed(api.KindDir, names(ent(2, "a"), ent(7, "b"), ent(2, "c"), ent(2, "d")))
	m.l[17] = sealed(api.KindDir, names(ent(8, "y"), ent(3, "z")))
	m.set(2, api.Inode{Kind: isFile, Links: 3})
	m.set(3, api.Inode{Kind: isFile, Links: 1})
	m.dir(7)
	m.dir(8)
	return m
}

// broken is a disk whose root is full, and whose first maps are not right: inodes are taken from group 1, sectors from group 2.
func broken() *image {
	m := blank(three)
	m.dir(1, names(ent(2, "a"), ent(2, "b"), ent(2, "c"), ent(2, "d")))
	m.set(2, api.Inode{Kind: isFile, Links: 4})
	for range 9 {
		m.take(1)
	}
	m.l[3][9] ^= 1
	return m
}

func feats() []feat {
	m := scattered()
	full := scattered()
	full.mark(1, 8)
	far := apart().fill(1, 6).fillInodes(2)
	none := []api.Op{}
	return []feat{
		{"a directory, whose name needs a block of another group", m, none, mkdir("/x"), 3},
		{"one whose block is of the last group", full, none, mkdir("/x"), 7},
		{"one in a slot", m, none, mkdir("/d/x"), 2},
		{"one in a directory without blocks", m, none, mkdir("/k/x"), 4},
		{"a file", m, none, opening("/x", 7), 3},
		{"a file in a slot", m, none, opening("/d/x", 7), 2},
		{"a file that is cut", m, none, opening("/f", forWrite|cutting), 5},
		{"one that is cut to a hole", m, none, cut("/f", 64), 5},
		{"one that is cut to a part", m, none, cut("/d/f", 9), 5},
		{"a link in a slot", m, none, link("/h", "/d/x"), 3},
		{"a link with a block", m, none, link("/h", "/k/x"), 5},
		{"a name that is not the last one", m, none, unlink("/f"), 1},
		{"a name in another group", m, none, unlink("/d/f"), 3},
		{"the last one", m, none, unlink("/h"), 1},
		{"the last one of blocks elsewhere", m, []api.Op{unlink("/f")}, unlink("/d/f"), 7},
		{"of what is open", m, []api.Op{unlink("/f"), opening("/d/f", forRead)}, unlink("/d/f"), 7},
		{"the last one that is closed", m, []api.Op{unlink("/f"), opening("/d/f", forRead), unlink("/d/f")}, closing(0), 5},
		{"an empty directory", m, none, rmdir("/k"), 5},
		{"one below", m, none, rmdir("/d/e"), 6},
		{"a rename onto nothing", m, none, rename("/h", "/d/x"), 3},
		{"one within a directory, with a block", m, none, rename("/h", "/x"), 3},
		{"one with a block elsewhere", m, none, rename("/d/f", "/k/f"), 7},
		{"one of a directory", m, none, rename("/k", "/d/k"), 7},
		{"a rename onto a file", m, none, rename("/h", "/d/f"), 3},
		{"onto the last name of one", m, []api.Op{unlink("/f")}, rename("/h", "/d/f"), 7},
		{"onto one in the root", m, none, rename("/d/f", "/h"), 3},
		{"onto a directory", m, none, rename("/d/e", "/k"), 7},
		{"onto one below", m, none, rename("/k", "/d/e"), 7},
		{"a write", m, []api.Op{opening("/f", 3)}, write(0, "abc"), 4},
		{"a link in a block elsewhere", apart(), none, link("/h", "/d/x"), 5},
		{"a directory in a block elsewhere", apart().fillInodes(8), none, mkdir("/d/x"), 4},
		{"a file where the pointer to the new block lies elsewhere", far, none, opening("/k/x", 7), 5},
		{"a rename onto a directory of a block elsewhere", beyond(), none, rename("/b", "/y"), 7},
		{"a rename of what has its name in a block elsewhere", beyond(), none, rename("/z", "/a"), 3},
		{"a file where maps are not right", broken(), none, opening("/x", 7), 7},
		{"one that takes blocks", m, []api.Op{opening("/h", 3)}, write(0, text(200)), 7},
	}
}

// began is a rig on which a feat can be asked for.
func (c feat) began(t *testing.T) *rig { return c.beganWith(t, 9) }

// beganWith is one with a cache of that size.
func (c feat) beganWith(t *testing.T, size int) *rig {
	t.Helper()
	r := fresh(t, size, c.disk)
	for _, o := range c.first {
		r.f.Do(o)
	}
	r.done(sync())
	r.clears()
	return r
}

// 26.1, P1, P2: the power goes while groups are marked: nothing is done, at whatever unit it goes; the words never say fewer than they did, nor a group of which nothing would be changed. When it is back all is as if that had not been.
func TestDown(t *testing.T) {
	for _, c := range feats() {
		all := 3 * bits.OnesCount32(c.groups)
		whole := c.began(t)
		want := whole.f.Do(c.o)
		whole.same("it", want.Err, api.OK)
		whole.says(c.groups, true)
		for units := range all {
			r := c.began(t)
			r.s.Limit(units)
			was, next, opened := r.graph(), r.next(), r.opened()
			a := r.f.Do(c.o)
			r.same("it", alike(a, api.Answer{Err: api.ErrDown}), true)
			r.same("what is left", []any{r.graph() == was, r.next(), r.opened()}, []any{true, next, opened})
			groups, right := r.w.Says()
			r.same("the words", right && groups&^c.groups != 0 || !right && groups != nvram.All(), false)
			r.s.Restore()
			r.same("it, again", alike(r.f.Do(c.o), want), true)
			r.same("all patches", []any{r.graph() == whole.graph(), r.opened()}, []any{true, whole.opened()})
		}
		r := c.began(t)
		r.s.Limit(all)
		r.same("it", alike(r.f.Do(c.o), want), true)
		r.says(c.groups, true)
		r.same("gone", r.s.Gone(), false)
		r.same("all patches", r.graph() == whole.graph(), true)
		if t.Failed() {
			t.Fatal(c.name)
		}
	}
}

// 26.1: without power it is done all the same where no group need be marked: they are marked, or the words are not right.
func TestDownNotNeeded(t *testing.T) {
	for _, c := range feats() {
		whole := c.began(t)
		want := whole.f.Do(c.o)
		for _, how := range []func(r *rig){func(r *rig) { r.w.Keep(c.groups) }, func(r *rig) { r.w.Poke(2, 77) }} {
			r := c.began(t)
			how(r)
			says := fmt.Sprint(r.w.Says())
			r.s.Limit(0)
			r.same("it", alike(r.f.Do(c.o), want), true)
			r.same("gone", r.s.Gone(), false)
			r.same("the words", fmt.Sprint(r.w.Says()), says)
			r.same("all patches", r.graph() == whole.graph(), true)
		}
		if t.Failed() {
			t.Fatal(c.name)
		}
	}
}

// 26.1, 26.4: all other errors are told ahead of that the power is gone; and what changes nothing needs none.
func TestOthersAheadOfDown(t *testing.T) {
	r := fresh(t, 9, crowd())
	r.open("/h", 3, 0)
	r.open("/g", forRead, 1)
	r.s.Limit(0)
	r.s.Use()
	r.leaves(func() {
		r.refuses(api.ErrSpace, mkdir("/q"), opening("/q", 7), link("/g", "/q"), rename("/g", "/q"), write(0, "a"))
		r.refuses(api.ErrLinks, link("/d/f", "/q"), rename("/d/f", "/g"))
		r.refuses(api.ErrMode, write(1, "a"))
		r.refuses(api.ErrBusy, rmdir("/"))
		r.refuses(api.ErrBig, cut("/g", maxSize+1))
		r.refuses(api.ErrDown, unlink("/g"), rmdir("/k"), rename("/g", "/h"), cut("/g", 3), opening("/g", forWrite|cutting))
		r.want(stat("/g"), api.Answer{Stat: api.Stat{Kind: isFile, Size: 9, Links: 4}})
		r.want(list("/d/e"), api.Answer{})
		r.done(rename("/d/f", "/d/z"), closing(1), fsync(0), sync())
		r.open("/g", forRead, 1)
		r.want(write(0, ""), api.Answer{})
	})
}

// ruined is the disk of the next test: sectors that are not right, one of them.
func ruined(sector int) *image {
	m := crowd()
	m.l[sector][9] ^= 1
	return m
}

// 26.1, P2: inodes in sectors that are not right: ErrSeal, as it comes, ahead of what can't be told without them, and of ErrSpace; nothing is done.
func TestSeal(t *testing.T) {
	r := fresh(t, 9, ruined(16)) // inodes 4 to 6: /d, /d/f, /d/e
	r.refuses(api.ErrSeal, stat("/d"), stat("/d/f"), list("/d"), list("/d/e"), mkdir("/d/x"), rmdir("/d"), unlink("/d"), unlink("/d/f"), rmdir("/d/f/x"), cut("/d", 3), cut("/d/f", -1),
		opening("/d", 3), opening("/d", 7), opening("/d/x", 7), link("/d", "/q"), link("/d/f", "/q"), link("/g", "/d/x"),
		rename("/d", "/q"), rename("/d", "/d/x"), rename("/d/f", "/q"), rename("/g", "/d/x"), rename("/g", "/d"), rename("/k", "/d"), rename("/d", "/k"))
	r.refuses(api.ErrExist, opening("/d", 15), mkdir("/d"), link("/g", "/d"))
	r.refuses(api.ErrArg, opening("/d", 16))
	r.refuses(api.ErrNoEnt, stat("/q"))
	r.refuses(api.ErrSpace, mkdir("/q"))
	ino, e := r.f.Walk("/d/f")
	r.same("Walk", []any{ino, e}, []any{0, api.ErrSeal})
	r.same("Above", []any{r.f.Above(4), r.f.Above(5), r.f.Above(2)}, []any{[]int{1}, []int{}, []int{1}})
	r.open("/g", 3, 0)
	r.leaves(func() { r.done(rename("/d", "/d"), fsync(0)) })
	r.done(unlink("/g"), closing(0), sync())

	// What is open can't be told any more: it stays open.
	r = fresh(t, 9, crowd())
	r.open("/d/f", 3, 0)
	r.patch(16, 9, api.KindRaw, 77)
	r.refuses(api.ErrSeal, read(0, 1), write(0, "a"), write(0, ""), closing(0))
	r.done(fsync(0), sync())
	r.refuses(api.ErrSeal, closing(0), read(0, 0))
	r.want(seek(0, 5), api.Answer{N: 5})

	// A root that can't be told any more.
	r = fresh(t, 9, crowd())
	r.patch(4, 9, api.KindRaw, 77)
	r.refuses(api.ErrSeal, stat("/"), list("/"), mkdir("/x"), stat("/d"), rename("/g", "/h"), opening("/g", 3))
	r.refuses(api.ErrExist, mkdir("/"))
	r.refuses(api.ErrIsDir, unlink("/"))
	r.same("Above", r.f.Above(2), []int{})
	_, e = fs.New(r.v)
	r.same("New", e, api.ErrArg)
}

// 26.1, 26.4, P2: sectors of pointers that are not right, on the way to a block that is to be hung in: ErrSeal, ahead of ErrSpace; no inode is taken, no link counted.
func TestSealOnTheWay(t *testing.T) {
	for _, sectors := range []int{0, 5} {
		for _, blocks := range []int{5, 32, 40} {
			m := street(long, blocks, 0, sectors, 1)
			x := inodeOf(m.l[4][:18])
			broken := int(x.Single)
			if blocks > 31 {
				broken = int(x.Double)
			}
			for _, to := range []uint16{0, 1, uint16(broken), 2000} {
				l := &image{g: m.g, l: append([]api.Block{}, m.l...)}
				if to == uint16(broken) {
					l.l[broken][3] ^= 1
				} else if blocks == 5 {
					x.Single = to
				} else {
					x.Double = to
				}
				if to == 0 {
					continue
				}
				l.set(1, x)
				r := fresh(t, 20, l)
				r.refuses(api.ErrSeal, mkdir("/x"), opening("/x", 7), link("/n0", "/x"), rename("/n1", "/x"))
			}
		}
		// Of a file.
		m := blank(three)
		m.dir(1, names(ent(2, "f")))
		m.set(2, api.Inode{Kind: isFile, Links: 1, Size: 64 * 40, Direct: [4]uint16{uint16(m.take(0))}, Single: uint16(m.take(0)), Double: 1})
		m.fill(0, sectors)
		r := fresh(t, 20, m)
		r.open("/f", 3, 0)
		for _, k := range []int{4, 30, 31, 100} {
			r.want(seek(0, 64*k), api.Answer{N: 64 * k})
			r.refuses(api.ErrSeal, write(0, "a"), write(0, text(130)))
		}
		r.want(seek(0, 64*50+9), api.Answer{N: 64*50 + 9})
		r.leaves(func() { r.want(write(0, ""), api.Answer{}) })
		r.want(seek(0, 64*4-1), api.Answer{N: 64*4 - 1})
		r.refuses(api.ErrSeal, write(0, "ab"))
		r.leaves(func() { r.want(write(0, ""), api.Answer{}) })
		r.want(seek(0, 60), api.Answer{N: 60})
		r.takes(write(0, "abcd"), 0, 0)
		r.want(seek(0, 64*4+60), api.Answer{N: 64*4 + 60})
		r.want(read(0, 9), api.Answer{Data: make([]byte, 9)})
	}
}

// 26.1, P2: maps that are not right: nothing is free by them.
func TestSealMaps(t *testing.T) {
	m := house()
	m.l[3][9] ^= 1
	r := fresh(t, 9, m)
	r.free(15, 3)
	r.takes(mkdir("/x"), 0, 1)
	r.are(1, bit(three, 1, 16, 7), whole(three, 6, api.Inode{Kind: isDir, Links: 1}, 1), added(5, 2, ent(6, "x"), 1, 2))
	r.says(3, true)
	m = house()
	for _, sector := range []int{3, 15, 27} {
		m.l[sector][9] ^= 1
	}
	r = fresh(t, 9, m)
	r.open("/g", 3, 0)
	r.refuses(api.ErrSpace, mkdir("/x"), opening("/x", 7), link("/g", "/d/e/x"), write(0, "a"))
	r.takes(link("/g", "/x"), 0, 0)
}

// 26.1, P2: names of inodes that are none, or not in use, on a disk that is not sound: nothing is done of them.
func TestUnsound(t *testing.T) {
	m := blank(three)
	m.dir(1, names(ent(65535, "none"), ent(3, "free"), ent(2, "few"), ent(10, "d")))
	m.set(2, api.Inode{Kind: isFile})
	r := fresh(t, 9, m)
	r.refuses(api.ErrArg, stat("/none"), list("/none"), unlink("/none"), unlink("/free"), rename("/few", "/none"), rename("/few", "/free"), rename("/none", "/x"), opening("/none", 3), cut("/none", 0), cut("/free", 0))
	r.refuses(api.ErrNotDir, stat("/none/x"), mkdir("/free/x"), rmdir("/free"))
	// Fewer links than names.
	r.takes(unlink("/few"), 0, 0)
	r.are(1, lost(5, 2, 1, 2), links(three, 2, 0, 1), whole(three, 2, api.Inode{}, 1))
	// A block behind a directory's size.
	m = blank(three)
	m.dir(1, names(ent(2, "a"), ent(2, "b"), ent(2, "c"), ent(2, "d")))
	m.set(2, api.Inode{Kind: isFile, Links: 4})
	m.set(1, api.Inode{Kind: isDir, Links: 1, Size: 64, Direct: [4]uint16{5, uint16(m.take(0))}})
	for _, p := range []api.Load{{}, names(ent(2, "e"))} {
		m.l[6] = sealed(api.KindDir, p)
		r = fresh(t, 9, m)
		r.refuses(api.ErrArg, mkdir("/x"), opening("/x", 7), link("/a", "/x"), rename("/a", "/x"))
		r.refuses(api.ErrNoEnt, unlink("/e"), stat("/e"))
	}
	m.l[6] = api.Block{}
	r = fresh(t, 9, m)
	r.refuses(api.ErrArg, mkdir("/x"), opening("/x", 7), link("/a", "/x"), rename("/a", "/x"))
}

// 26.1, 26.2, P1: names by which directories lie within themselves: all ends.
func TestRound(t *testing.T) {
	m := house()
	m.l[5] = sealed(api.KindDir, names(ent(4, "d"), ent(2, "g"), ent(1, "r")))
	m.l[17] = sealed(api.KindDir, names(ent(5, "f"), ent(7, "e"), ent(1, "up"), ent(4, "d")))
	r := fresh(t, 9, m)
	r.same("Above", []any{r.f.Above(2), r.f.Above(5), r.f.Above(1), r.f.Above(7), r.f.Above(9)}, []any{[]int{1, 4}, []int{1, 4}, []int{1, 4}, []int{1, 4}, []int{}})
	r.same("a way round", r.walks("/r/d/up/r/d/d/f"), 5)
	r.open("/d/d/f", 3, 0)
	r.done(fsync(0), sync())
	r.refuses(api.ErrNotEmpty, rmdir("/d/d"), rmdir("/d/up"), rename("/d/e", "/r"), rename("/d/e", "/d/d"))
}

// moreFeats is feats, and such as read more sectors than these: of files with sectors of pointers.
func moreFeats() []feat {
	m := blank(three)
	m.dir(1, names(ent(2, "f"), ent(3, "g"), ent(4, "k")))
	x := api.Inode{Kind: isFile, Links: 1, Size: 64 * 140}
	for _, k := range []int{3, 5, 30, 31, 57, 58, 85, 112, 139} {
		m.hang(k%3, &x, k, m.take(k%2))
	}
	m.set(2, x)
	m.set(3, api.Inode{Kind: isFile, Links: 1, Size: 1})
	m.dir(4)
	held := []api.Op{opening("/f", 3), opening("/g", 3)}
	from := func(k int) []api.Op { return append(slices.Clone(held), seek(0, 64*k), seek(1, 64*k)) }
	full := names(ent(2, "1"), ent(2, "2"), ent(2, "3"), ent(2, "4"))
	l := blank(three)
	l.dir(1, full, names(ent(2, "5"), ent(2, "6"), ent(2, "7"), ent(2, "8")), full, names(ent(2, "9"), ent(2, "x"), ent(2, "y"), ent(2, "z")))
	l.set(2, api.Inode{Kind: isFile, Links: 16, Size: 7})
	return append(feats(),
		feat{"a write over all kinds of ways", m, from(30), write(0, text(64*2)), 7},
		feat{"one over two sectors of pointers", m, from(57), write(0, text(64*2)), 7},
		feat{"one that hangs in", m, from(29), write(0, text(64*4)), 7},
		feat{"one that hangs in sectors of pointers", m, from(30), write(1, text(64*2)), 7},
		feat{"one more", m, from(57), write(1, text(64*2)), 7},
		feat{"one that is cut to nothing", m, held, opening("/f", forWrite|cutting), 7},
		feat{"one that is cut a bit", m, held, cut("/f", 64*58-3), 7},
		feat{"one that is cut within Single", m, held, cut("/f", 64*5+3), 7},
		feat{"one that grows", m, held, cut("/f", 64*150), 7},
		feat{"the last name of what has sectors of pointers", m, nil, unlink("/f"), 7},
		feat{"of what is open, too", m, held, unlink("/f"), 7},
		feat{"which is closed", m, append(slices.Clone(held), unlink("/f")), closing(0), 7},
		feat{"a rename onto it", m, held, rename("/g", "/f"), 7},
		feat{"a rename into another directory", m, held, rename("/f", "/k/f"), 7},
		feat{"a link in a directory with many blocks", l, nil, link("/z", "/new"), 7},
		feat{"a rename there", l, nil, rename("/z", "/new"), 7},
		feat{"a directory there", l, nil, mkdir("/new"), 7},
		feat{"a rename there onto another", l, nil, rename("/z", "/5"), 7},
		feat{"a name there", l, nil, unlink("/z"), 7},
	)
}

// 26.1, P2: a sector in the cache that can't be written, whichever it is, with a cache of any size: what is asked is done as a whole, or tells ErrDown, and leaves nothing. With a cache in which all has room it is done. What is pinned stays so.
func TestStuckAnywhere(t *testing.T) {
	d := rand.New(rand.NewSource(1))
	done, downs := 0, 0
	for _, c := range moreFeats() {
		whole := c.began(t)
		want := whole.f.Do(c.o)
		whole.same("it", want.Err, api.OK)
		after := whole.graph()
		whole.done(sync())
		sectors, inodes := alloc.Avail(whole.v)
		r := c.began(t)
		was, next, opened := r.graph(), r.next(), r.opened()
		for sector := 2; sector < r.d.Len(); sector++ {
			for size := 1; size < 14; size++ {
				r := c.beganWith(t, size)
				if size == 13 {
					r = c.beganWith(t, 40)
				}
				units := r.sticks(d, sector, size)
				a := r.f.Do(c.o)
				switch {
				case alike(a, want):
					done++
					r.same("all patches", r.graph() == after, true)
					r.s.Restore()
					r.done(sync())
					r.free(sectors, inodes)
				case alike(a, api.Answer{Err: api.ErrDown}) && (size < 13 || units > 0):
					downs++
					r.same("what is left", []any{r.graph() == was, r.next(), r.opened()}, []any{true, next, opened})
				default:
					t.Error("it: ", a)
				}
				if t.Failed() {
					t.Fatal(c.name, ": sector ", sector, ", size ", size, ", units ", units)
				}
			}
		}
	}
	if done < 5000 || downs < 5000 {
		t.Error("done, and refused, only so often: ", done, downs)
	}
}

// sticks lets the cache have a sector changed, with others read ahead of it and behind it; and lets there be power for so many units: none, where all groups are marked.
func (r *rig) sticks(d *rand.Rand, sector, size int) int {
	r.t.Helper()
	reads := func(n int) {
		for range n {
			r.v.Get(2 + d.Intn(r.d.Len()-2))
		}
	}
	units := max(d.Intn(20)-9, 0)
	if units == 0 {
		r.same("Keep", r.w.Keep(7), api.OK)
	}
	reads(d.Intn(size + 1))
	b, _ := r.v.Get(sector)
	r.same("Put", r.v.Put(sector, b), api.OK)
	r.s.Limit(units)
	reads(d.Intn(size))
	return units
}

// stuck is a rig whose cache holds as many sectors as these and one more, which is changed and can't go, as there is no power; all groups are marked. Ahead of it the cache holds these, the last one used last.
func stuck(t *testing.T, m *image, first []api.Op, held ...int) *rig {
	t.Helper()
	r := fresh(t, 1+len(held), m)
	r.w.Keep(7)
	for _, o := range first {
		r.f.Do(o)
	}
	r.syncs()
	r.w.Keep(7)
	a, b := r.patch(36, 0, 0, 1), r.patch(37, 0, 0, 1)
	r.s.Limit(1) // the write of 36
	r.same("Settle", r.v.Settle(a, b), api.ErrDown)
	for _, sector := range held {
		_, e := r.v.Now(sector)
		r.same("held", e, api.OK)
	}
	r.same("changed", r.v.Changed(), []int{37})
	return r
}

// 26.1, 26.2, P2: sectors that can't be read, since what must go from the cache can't be written: ErrDown, as it comes; nothing is done, and when the power is back all is there.
func TestUnread(t *testing.T) {
	none := []api.Op{}
	all := []api.Op{stat("/g"), list("/"), mkdir("/x"), opening("/x", 7), opening("/g", 3), unlink("/g"), rmdir("/d"), link("/g", "/x"), rename("/g", "/x"), rename("/g", "/d/f"), cut("/g", 0)}
	downs := func(r *rig, l ...api.Op) {
		t.Helper()
		graph, next, opened := r.graph(), r.next(), r.opened()
		for _, o := range l {
			r.want(o, api.Answer{Err: api.ErrDown})
			r.costs(o, 0, 0)
		}
		r.same("what is left", []any{r.graph() == graph, r.next(), r.opened()}, []any{true, next, opened})
	}
	// Not even the root's inode: it was held, and went.
	r := stuck(t, house(), none, 9)
	downs(r, all...)
	ino, e := r.f.Walk("/g")
	r.same("Walk, Above", []any{ino, e, r.f.Above(2)}, []any{0, api.ErrDown, []int{}})
	_, e = fs.New(r.v)
	r.same("New", e, api.ErrArg)
	// The root's inode, but not its names; those, but not /d's inode; that, but not its names.
	downs(stuck(t, house(), none, 4), all...)
	r = stuck(t, house(), none, 4, 5)
	r.want(stat("/g"), api.Answer{Stat: api.Stat{Kind: isFile, Links: 1}})
	r.same("Above", r.f.Above(2), []int{})
	downs(r, stat("/d"), mkdir("/x"), opening("/x", 7), rmdir("/d"), rename("/g", "/d/f"), link("/g", "/d/x"))
	r.want(link("/g", "/x"), api.Answer{})
	r = stuck(t, house(), none, 4, 5, 16)
	downs(r, list("/d"), unlink("/d/f"), mkdir("/d/x"), rename("/g", "/d/x"))
	// All but what is to be free: of maps that can't be read none is.
	r = stuck(t, house(), none, 4, 5, 16, 17)
	downs(r, mkdir("/x"), mkdir("/d/x"), opening("/d/x", 7))
	r.want(list("/d"), api.Answer{Names: []string{"e", "f"}})
	r.done(link("/d/f", "/x"), link("/g", "/d/g"), unlink("/d/f"))
	// When the power is back.
	r.s.Restore()
	r.done(mkdir("/y"), sync())
	r.want(list("/"), api.Answer{Names: []string{"d", "g", "x", "y"}})
	// What is open, and all else that is told without reading, is told.
	r = stuck(t, house(), []api.Op{opening("/d/f", 3), opening("/g", 3)}, 4, 5)
	downs(r, read(0, 1), write(0, "a"), closing(0), fsync(0))
	r.want(seek(0, 5), api.Answer{N: 5})
	r.want(read(1, 5), api.Answer{})
	r.want(rename("/g", "/"), api.Answer{Err: api.ErrBusy})
	r.done(closing(1))
}

// 26.1, P2: an inode whose sectors of pointers can't be read: nobody knows what it has, so that it does not lose its last name.
func TestUnreadPointers(t *testing.T) {
	m := blank(three)
	m.dir(1, names(ent(2, "f"), ent(3, "g")))
	x := api.Inode{Kind: isFile, Links: 1, Size: 64 * 90}
	for _, k := range []int{5, 40} {
		m.hang(0, &x, k, m.take(0))
	}
	m.set(2, x)
	m.set(3, api.Inode{Kind: isFile, Links: 1})
	inner := int(x.Double) + 1
	for _, open := range []bool{false, true} {
		var first []api.Op
		if open {
			first = []api.Op{opening("/f", 3)}
		}
		for _, held := range [][]int{{4, 5}, {int(x.Single), 4, 5}, {int(x.Double), inner, 4, 5}, {int(x.Single), int(x.Double), 4, 5}, {int(x.Single), inner, 4, 5}} {
			r := stuck(t, m, first, held...)
			graph := r.graph()
			r.want(unlink("/f"), api.Answer{Err: api.ErrDown})
			r.want(rename("/g", "/f"), api.Answer{Err: api.ErrDown})
			r.same("the graph", r.graph() == graph, true)
			r.done(link("/f", "/h"), unlink("/f"))
		}
		r := stuck(t, m, first, int(x.Single), int(x.Double), inner, 4, 5)
		r.done(unlink("/f"))
	}
}

// 26.1: what need not be read keeps nothing from being done: no maps where nothing is taken, no sectors of pointers where a file grows.
func TestUnreadNotNeeded(t *testing.T) {
	m := blank(three)
	m.dir(1, names(ent(2, "f")))
	x := api.Inode{Kind: isFile, Links: 1, Size: 64 * 5}
	for k := range 5 {
		m.hang(0, &x, k, m.take(0))
	}
	m.set(2, x)
	first := []api.Op{opening("/f", 3)}
	r := stuck(t, m, first, 4, 5)
	r.want(write(0, text(256)), api.Answer{N: 256})
	r.same("patches", len(r.v.By(2)), 4)
	r = stuck(t, m, first, 4, 5)
	r.done(cut("/f", 64*9))
	r.want(cut("/f", 64*3), api.Answer{Err: api.ErrDown})
	r.want(opening("/f", forWrite|cutting), api.Answer{Err: api.ErrDown})
	r.want(opening("/f", forWrite), api.Answer{N: 1})
}

// 26.4: where it can't be read what is free nobody knows that there is no space.
func TestUnreadSpace(t *testing.T) {
	m := house().fill(0, 3).fillInodes(3)
	for _, c := range []struct {
		o    api.Op
		held []int
	}{
		{mkdir("/x"), []int{3, 4, 5}},
		{mkdir("/x"), []int{3, 4, 5, 15}},
		{opening("/x", 7), []int{3, 27, 4, 5}},
	} {
		r := stuck(t, m, nil, c.held...)
		graph := r.graph()
		r.want(c.o, api.Answer{Err: api.ErrDown})
		r.same("the graph", r.graph() == graph, true)
	}
	r := stuck(t, m, nil, 3, 15, 27, 4, 5)
	r.done(mkdir("/x"))
}

// 26.1, P2: a cache in which all is pinned, so that nothing else can be held: ErrFull, as it comes, and nothing is done.
func TestPinnedAll(t *testing.T) {
	m := house()
	x := api.Inode{Kind: isFile, Links: 1, Size: 64 * 5}
	m.hang(0, &x, 4, m.take(0))
	m.set(2, x)
	pinned := func(first []api.Op, sectors ...int) *rig {
		r := fresh(t, len(sectors), m)
		for _, o := range first {
			r.f.Do(o)
		}
		r.done(sync())
		for _, sector := range sectors {
			_, e := r.v.Get(sector)
			r.same("Get, Pin", []any{e, r.v.Pin(sector)}, []any{api.OK, api.OK})
		}
		return r
	}
	refuses := func(r *rig, l ...api.Op) {
		t.Helper()
		words, graph := fmt.Sprint(r.w.Says()), r.graph()
		for _, o := range l {
			r.want(o, api.Answer{Err: api.ErrFull})
		}
		r.same("what is left", []any{fmt.Sprint(r.w.Says()), r.graph() == graph}, []any{words, true})
	}
	refuses(pinned(nil, 9), stat("/g"), list("/"), mkdir("/x"), opening("/x", 7), unlink("/g"))
	refuses(pinned(nil, 4), stat("/g"), list("/"), mkdir("/x"), opening("/x", 7), unlink("/g"))
	r := pinned(nil, 4, 5)
	r.want(stat("/g"), api.Answer{Stat: api.Stat{Kind: isFile, Size: 320, Links: 1}})
	refuses(r, stat("/d"), mkdir("/x"), unlink("/g"), rename("/d/f", "/g"), cut("/g", 3), opening("/g", forWrite|cutting), link("/g", "/d/x"))
	r.done(link("/g", "/x"), unlink("/g"))
	// What is open, and whether other directories are above it; what has no names, but sectors of pointers.
	r = pinned([]api.Op{opening("/g", 3), seek(0, 256)}, 4, 5)
	refuses(r, read(0, 1), write(0, "a"), fsync(0), sync())
	r = pinned([]api.Op{opening("/g", 3), unlink("/g"), sync()}, 4, 16, 28)
	refuses(r, sync(), closing(0))
	r.says(1, true)
	r = pinned([]api.Op{opening("/g", 3), unlink("/g"), sync()}, 4, 16, 28, int(x.Single))
	r.done(sync())
	r.says(1, true)
}

// 26.4: an inode that is in use no more, though it is open: ErrArg, also where there is no space.
func TestNoneIsOpen(t *testing.T) {
	r := fresh(t, 9, house().fill(0, 0))
	r.open("/g", 3, 0)
	r.patch(4, 18, api.KindInode, make([]byte, 18)...)
	r.refuses(api.ErrArg, write(0, "a"), write(0, ""), read(0, 1))
}
