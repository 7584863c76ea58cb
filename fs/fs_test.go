package fs_test

import (
	"fmt"
	"math"
	"reflect"
	"slices"
	"testing"

	"scupper/api"
	"scupper/fds"
	"scupper/fs"
	"scupper/vol"
)

// 26.1: the chapter's example: inode 2.
func TestExample(t *testing.T) {
	r := fresh(t, 9, blank(three))
	r.done(mkdir("/a"))
	r.same("the inode", r.walks("/a"), 2)
	r.same("it", r.inode(2), api.Inode{Kind: isDir, Links: 1})
}

// 26.1: a volume that is none, or whose inode 1 is no directory, or can't be told.
func TestNew(t *testing.T) {
	if f, e := fs.New(nil); f != nil || e != api.ErrArg {
		t.Error("of no volume: ", f, e)
	}
	for _, x := range []api.Inode{{}, {Kind: isFile, Links: 1}, {Kind: isFile, Links: 1, Size: 64, Direct: [4]uint16{5}}, {Kind: 3}, {Kind: 255, Links: 1}} {
		m := blank(three)
		m.set(1, x)
		m.set(2, api.Inode{Kind: isDir, Links: 1})
		r := bare(t, 9, m)
		f, e := fs.New(r.v)
		r.same(fmt.Sprint("of ", x), []any{f == nil, e}, []any{true, api.ErrArg})
		// What counts is what it is now.
		r.patch(4, 0, api.KindInode, isDir)
		f, e = fs.New(r.v)
		r.same(fmt.Sprint("of ", x), []any{f == nil, e}, []any{false, api.OK})
		r.patch(4, 0, api.KindInode, isFile)
		f, e = fs.New(r.v)
		r.same(fmt.Sprint("of ", x), []any{f == nil, e}, []any{true, api.ErrArg})
	}
	for _, b := range []api.Block{{}, sealed(api.KindDir, api.Load{0: isDir}), {0: isDir}} {
		m := blank(three)
		m.l[4] = b
		r := bare(t, 9, m)
		f, e := fs.New(r.v)
		r.same("of an inode that can't be told", []any{f == nil, e}, []any{true, api.ErrArg})
	}
}

// 26.1: nothing is open, nothing is changed, by each New anew; two of one volume have a table each.
func TestNewIsFresh(t *testing.T) {
	r := fresh(t, 9, house())
	r.leaves(func() {
		f, e := fs.New(r.v)
		r.same("New", []any{e, f.Open().Used()}, []any{api.OK, []int{}})
	})
	r.open("/g", 3, 0)
	f, _ := fs.New(r.v)
	r.same("open", []any{r.f.Open().Used(), f.Open().Used()}, []any{[]int{0}, []int{}})
	r.same("N", f.Do(opening("/g", forRead)).N, 0)
	r.done(mkdir("/x"))
	ino, e := f.Walk("/x")
	r.same("Walk", []any{ino, e}, []any{3, api.OK})
}

// Rule 2: a file system that is none.
func TestNone(t *testing.T) {
	var f *fs.FS
	for kind := range 18 {
		for _, o := range []api.Op{{Kind: kind}, {Kind: kind, Path: "/", To: "/", Flags: 3}, {Kind: kind, Path: "/a", To: "/b", Flags: 7, Fd: -1, N: -1}} {
			if a := f.Do(o); !reflect.DeepEqual(a, api.Answer{Err: api.ErrNil}) {
				t.Errorf("%+v: %+v", o, a)
			}
			if n, i := f.Cost(o); n != 0 || i != 0 {
				t.Errorf("%+v: %d %d", o, n, i)
			}
		}
	}
	for _, p := range []string{"", "/", "/a", many(17)} {
		if ino, e := f.Walk(p); ino != 0 || e != api.ErrNil {
			t.Error("Walk: ", ino, e)
		}
	}
	for _, ino := range []int{-1, 0, 1, 2} {
		if l := f.Above(ino); l != nil {
			t.Error("Above: ", l)
		}
	}
	if f.Vol() != nil || f.Open() != nil {
		t.Error("something of it")
	}
}

// 26.2: Walk: Split's error, the walk's, the inode.
func TestWalk(t *testing.T) {
	r := fresh(t, 9, crowd())
	r.leaves(func() {
		all := wrongPaths()
		for p, e := range lostPaths() {
			all[p] = e
		}
		for _, p := range []string{"/q", "/d/q", "/k/q", "/d/e/q", "/d/d"} {
			all[p] = api.ErrNoEnt
		}
		for _, p := range []string{"/g/g", "/d/n/x/y"} {
			all[p] = api.ErrNotDir
		}
		for p, want := range all {
			ino, e := r.f.Walk(p)
			r.same("Walk of "+p, []any{ino, e}, []any{0, want})
		}
		for p, want := range map[string]int{"/": 1, "/d": 4, "/g": 2, "/h": 3, "/k": 7, "/d/f": 5, "/d/z": 5, "/d/e": 6, "/d/n": 8, "/d/n/x": 9, "/d/n/y": 2} {
			ino, e := r.f.Walk(p)
			r.same("Walk of "+p, []any{ino, e}, []any{want, api.OK})
		}
	})
	// As deep as a path can be, and deeper by a rename: there no path leads.
	r = fresh(t, 9, blank(great))
	for n := range maxDepth {
		r.done(mkdir(many(n + 1)))
		r.same("the inode", r.walks(many(n+1)), n+2)
	}
	r.refused(mkdir(many(maxDepth+1)), api.ErrLong)
	r.done(mkdir("/y"), mkdir("/y/y"), rename("/x", "/y/y/x"))
	r.same("the inode", r.walks("/y/y"+many(14)), 15)
	ino, e := r.f.Walk("/y/y" + many(15))
	r.same("deeper", []any{ino, e}, []any{0, api.ErrLong})
	r.same("above", r.f.Above(17), []int{1, 2, 3, 4, 5, 6, 7, 8, 9, 10, 11, 12, 13, 14, 15, 16, 18, 19})
	r.done(rename("/y/y"+many(14), "/z"))
	r.same("the inode", r.walks("/z/x/x"), 17)
}

// 26.2: the directories above: of a file with names in several of them, of a directory, of the root, of what is none.
func TestAbove(t *testing.T) {
	r := fresh(t, 9, crowd())
	r.leaves(func() {
		for ino, want := range map[int][]int{1: {}, 2: {1, 4, 8}, 3: {1}, 4: {1}, 5: {1, 4}, 6: {1, 4}, 7: {1}, 8: {1, 4}, 9: {1, 4, 8}} {
			r.same(fmt.Sprint("Above of ", ino), r.f.Above(ino), want)
		}
		for _, ino := range []int{math.MinInt, -1, 0, 10, 65535, 65536, math.MaxInt} {
			r.same(fmt.Sprint("Above of ", ino), r.f.Above(ino), []int{})
		}
	})
	l := r.f.Above(2)
	l[0] = 99
	r.same("Above of 2", r.f.Above(2), []int{1, 4, 8})
	// With what changes: within the root, below /k as well, not below /d any more, without any name.
	r.done(unlink("/g"), unlink("/d/n/yy"))
	r.same("Above of 2", r.f.Above(2), []int{1, 4, 8})
	r.done(rename("/d/n/yyy", "/g"), rename("/d/n/y", "/g"))
	r.same("Above of 2", r.f.Above(2), []int{1, 4, 8})
	r.open("/h", forRead, 0)
	r.done(rename("/d/n", "/k"))
	r.same("Above of 9", r.f.Above(9), []int{1, 8})
	r.done(unlink("/h"))
	r.same("Above of 3", r.f.Above(3), []int{})
	r.done(unlink("/k/x"))
	r.same("Above of 9", r.f.Above(9), []int{})
}

// 26.2: directories that lead in a circle, or have several names, on a disk that is not sound: all ways count, and it ends.
func TestAboveCircles(t *testing.T) {
	m := blank(three)
	m.dir(1, names(ent(2, "a"), ent(4, "b")))
	m.dir(2, names(ent(3, "c"), ent(5, "f")))
	m.dir(3, names(ent(2, "back"), ent(1, "top"), ent(6, "e")))
	m.dir(4, names(ent(3, "c"), ent(65535, "none"), ent(7, "free"), ent(4, "self")))
	m.dir(8, names(ent(5, "f")))
	m.set(5, api.Inode{Kind: isFile, Links: 2})
	m.set(6, api.Inode{Kind: isDir, Links: 1})
	r := fresh(t, 9, m)
	for ino, want := range map[int][]int{1: {1, 2, 3, 4}, 2: {1, 2, 3, 4}, 3: {1, 2, 3, 4}, 4: {1, 2, 3, 4}, 5: {1, 2, 3, 4}, 6: {1, 2, 3, 4}, 7: {1, 2, 3, 4}, 8: {}, 9: {}, 65535: {1, 2, 3, 4}} {
		r.same(fmt.Sprint("Above of ", ino), r.f.Above(ino), want)
	}
	for p, want := range map[string]api.Errno{"/b/none/x": api.ErrNotDir, "/b/free/x": api.ErrNotDir, "/a/c/top/b/self/none/x": api.ErrNotDir, "/b/none": api.OK} {
		_, e := r.f.Walk(p)
		r.same(p, e, want)
	}
}

// 26.2: the volume is the one that it was made of, and its calls are the file system's own.
func TestVol(t *testing.T) {
	r := fresh(t, 9, house())
	r.same("the volume", r.f.Vol() == r.v, true)
	r.done(mkdir("/x"))
	n, k := r.f.Pending()
	m, j := r.v.Pending()
	r.same("Pending", []int{n, k}, []int{m, j})
	r.same("Geom", r.f.Geom(), three)
	p, e := r.f.Load(5, api.KindDir)
	r.same("Load", []any{p, e}, []any{names(ent(4, "d"), ent(2, "g"), ent(3, "x")), api.OK})
	r.same("By", r.f.By(3), r.v.By(3))
	r.same("Sync", r.f.Sync(), api.OK)
	n, k = r.v.Pending()
	r.same("Pending", []int{n, k}, []int{0, 0})
	var calls interface {
		Later(vol.Free) api.Errno
		Mark(...int) api.Errno
		Settle(...int) api.Errno
		Now(int) (api.Block, api.Errno)
		Patch(api.Patch) (int, api.Errno)
	} = r.f
	r.same("Mark", calls.Mark(29), api.OK)
	r.says(4, true)
}

// 26.2: the table that is told is a copy.
func TestOpenIsCopy(t *testing.T) {
	r := fresh(t, 9, house())
	r.open("/g", forWrite, 0)
	r.open("/d/f", 3, 1)
	r.want(seek(1, 7), api.Answer{N: 7})
	x := r.f.Open()
	was := told(x)
	f, e := x.Get(1)
	r.same("place 1", []any{f, e}, []any{fds.File{Ino: 5, Pos: 7, Mode: 3}, api.OK})
	f, e = x.Get(0)
	r.same("place 0", []any{f, e}, []any{fds.File{Ino: 2, Mode: forWrite}, api.OK})
	x.Close(0)
	x.Seek(1, 99)
	x.Open(9, 1)
	r.same("open", r.opened(), was)
	x = r.f.Open()
	r.done(closing(1))
	r.same("the copy", told(x), was)
}

// Rule 4: what is written is not kept, and what is read is the caller's own; nor are lists of names.
func TestNotShared(t *testing.T) {
	r := fresh(t, 9, house())
	r.open("/d/f", 3, 0)
	data := []byte("abcdef")
	o := api.Op{Kind: api.OpWrite, Fd: 0, Data: data}
	r.want(o, api.Answer{N: 6})
	r.same("what was handed in", string(data), "abcdef")
	copy(data, "xxxxxx")
	r.want(seek(0, 0), api.Answer{})
	a := r.f.Do(read(0, 6))
	r.same("read", string(a.Data), "abcdef")
	copy(a.Data, "yyyyyy")
	r.want(seek(0, 0), api.Answer{})
	r.want(read(0, 6), api.Answer{Data: []byte("abcdef")})
	l := r.f.Do(list("/"))
	l.Names[0] = "z"
	r.want(list("/"), api.Answer{Names: []string{"d", "g"}})
}

// 26.1, 26.3: what is answered on the way: files made, written, read, sought in, cut.
func TestFiles(t *testing.T) {
	for size := range 12 {
		r := fresh(t, 1+size, blank(one))
		r.open("/f", 7, 0)
		r.want(write(0, "hello"), api.Answer{N: 5})
		r.want(read(0, 9), api.Answer{})
		r.want(seek(0, 1), api.Answer{N: 1})
		r.want(read(0, 3), api.Answer{Data: []byte("ell")})
		r.want(read(0, 3), api.Answer{Data: []byte("o")})
		r.want(read(0, 3), api.Answer{})
		r.want(seek(0, 300), api.Answer{N: 300})
		r.want(read(0, 3), api.Answer{})
		r.want(write(0, ""), api.Answer{})
		r.want(stat("/f"), api.Answer{Stat: api.Stat{Kind: isFile, Size: 5, Links: 1}})
		r.want(write(0, "end"), api.Answer{N: 3})
		r.want(stat("/f"), api.Answer{Stat: api.Stat{Kind: isFile, Size: 303, Links: 1}})
		r.bytes("/f", "hello"+string(make([]byte, 295))+"end")
		r.done(cut("/f", 302))
		r.done(cut("/f", 2))
		r.done(cut("/f", 4))
		r.bytes("/f", "he\x00\x00")
		r.done(sync())
		r.bytes("/f", "he\x00\x00")
		r.want(read(0, 0), api.Answer{})
		r.want(seek(0, 0), api.Answer{})
		r.want(write(0, text(maxBytes)[:1500]), api.Answer{N: 1500})
		r.done(fsync(0))
		r.bytes("/f", text(1500))
		r.open("/f", forWrite|cutting, 1)
		r.want(read(0, 9), api.Answer{})
		r.want(seek(0, 0), api.Answer{})
		r.want(read(0, 9), api.Answer{})
		r.done(closing(0), closing(1), unlink("/f"), sync())
		r.free(39, 8)
	}
}

// 26.1, 26.3: eight files are open, and no ninth, be it there or not; the first place that is free is taken.
func TestEight(t *testing.T) {
	r := fresh(t, 9, house())
	for fd := range maxFds {
		r.open([]string{"/g", "/d/f"}[fd%2], forRead, fd)
	}
	r.refuses(api.ErrFiles, opening("/g", forRead), opening("/new", 7), opening("/d/f", forWrite|cutting))
	r.done(closing(5), closing(2))
	r.open("/new", 7, 2)
	r.open("/g", forWrite, 5)
	r.refused(opening("/newer", 7), api.ErrFiles)
}

// 26.1: names are told rising, byte by byte, wherever their slots are.
func TestListRising(t *testing.T) {
	r := fresh(t, 9, blank(one))
	l := []string{"b", "ab", "B", "a", "~", "a.b", "0", "aa"}
	for i, name := range l {
		if i == 0 {
			r.done(mkdir("/" + name))
			continue
		}
		r.has("/x", "")
		r.done(rename("/x", "/"+name))
		if i == 5 {
			r.done(sync())
		}
	}
	slices.Sort(l)
	r.want(list("/"), api.Answer{Names: l})
}
