package tree_test

import (
	"fmt"
	"math"
	"reflect"
	"slices"
	"strings"
	"testing"

	"scupper/api"
	"scupper/fds"
	"scupper/tree"
)

// The document's numbers, written out, so that no shared slip of code and test hides.
const (
	maxDepth = 16
	maxLinks = 200
	maxSize  = 48640
	maxBytes = 4096
	maxFds   = 8

	isFile = 1
	isDir  = 2

	forRead  = 1
	forWrite = 2
	create   = 4
	only     = 8
	cutting  = 16
)

// look is all that can be told of a tree by numbers up to a bound.
type look struct {
	Paths []tree.Place
	Nodes []tree.Node
	None  []api.Errno
	Open  []fds.File
	Used  []int
}

// bound is a number that no node of a test's tree has.
const bound = 260

// told is all that can be told of x.
func told(t *testing.T, x *tree.Tree) look {
	t.Helper()
	l := look{Paths: x.Paths()}
	for id := -1; id <= bound; id++ {
		n, e := x.Node(id)
		l.Nodes, l.None = append(l.Nodes, n), append(l.None, e)
	}
	open := x.Open()
	l.Used = open.Used()
	for _, fd := range l.Used {
		f, e := open.Get(fd)
		if e != api.OK {
			t.Fatalf("Get(%d): %v", fd, e)
		}
		l.Open = append(l.Open, f)
	}
	return l
}

// rig is a tree that is tried.
type rig struct {
	*testing.T
	x *tree.Tree
}

func newRig(t *testing.T) rig { return rig{t, tree.New()} }

// ok wants what is asked to be done.
func (r rig) ok(o api.Op) api.Answer {
	r.Helper()
	a := r.x.Do(o)
	if a.Err != api.OK {
		r.Fatalf("%+v: %v", o, a.Err)
	}
	return a
}

// want wants just this answer, whatever it does.
func (r rig) want(o api.Op, want api.Answer) {
	r.Helper()
	a := r.x.Do(o)
	if a.Err != want.Err || a.N != want.N || string(a.Data) != string(want.Data) || !slices.Equal(a.Names, want.Names) || a.Stat != want.Stat {
		r.Errorf("%+v: %+v, want %+v", o, a, want)
	}
}

// done wants an answer without anything but that it was done.
func (r rig) done(ops ...api.Op) {
	r.Helper()
	for _, o := range ops {
		r.want(o, api.Answer{})
	}
}

// refused wants that error, and nothing done.
func (r rig) refused(o api.Op, want api.Errno) {
	r.Helper()
	before := told(r.T, r.x)
	a := r.x.Do(o)
	if a.Err != want || a.N != 0 || len(a.Data) != 0 || len(a.Names) != 0 || a.Stat != (api.Stat{}) {
		r.Errorf("%+v: %+v, want %v alone", o, a, want)
	}
	if after := told(r.T, r.x); !reflect.DeepEqual(before, after) {
		r.Errorf("%+v (%v) changed the tree:\n%+v\n%+v", o, a.Err, before, after)
	}
}

// open opens a path, and wants the place.
func (r rig) open(p string, flags, fd int) {
	r.Helper()
	r.want(api.Op{Kind: api.OpOpen, Path: p, Flags: flags}, api.Answer{N: fd})
}

// has makes a file of that path with those bytes, and leaves it closed.
func (r rig) has(p, data string) {
	r.Helper()
	fd := r.ok(api.Op{Kind: api.OpOpen, Path: p, Flags: forWrite | create | cutting}).N
	r.ok(api.Op{Kind: api.OpWrite, Fd: fd, Data: []byte(data)})
	r.ok(api.Op{Kind: api.OpClose, Fd: fd})
}

// paths wants just these paths and nodes, written as "path number".
func (r rig) paths(want ...string) {
	r.Helper()
	var l []string
	for _, p := range r.x.Paths() {
		l = append(l, fmt.Sprint(p.Path, " ", p.Id))
		if id, e := r.x.Walk(p.Path); e != api.OK || id != p.Id {
			r.Errorf("Walk(%q): %d %v, want %d", p.Path, id, e, p.Id)
		}
	}
	if !slices.Equal(l, want) {
		r.Errorf("Paths: %v, want %v", l, want)
	}
}

// node wants just that node.
func (r rig) node(id int, want tree.Node) {
	r.Helper()
	n, e := r.x.Node(id)
	if e != api.OK || n.Kind != want.Kind || n.Links != want.Links || string(n.Data) != string(want.Data) || !slices.Equal(n.Names, want.Names) {
		r.Errorf("Node(%d): %+v %v, want %+v", id, n, e, want)
	}
}

// gone wants no node of that number.
func (r rig) gone(id int) {
	r.Helper()
	if n, e := r.x.Node(id); e != api.ErrNone || n.Kind != 0 || n.Links != 0 || n.Data != nil || n.Names != nil {
		r.Errorf("Node(%d): %+v %v, want ErrNone", id, n, e)
	}
}

// bytes wants the bytes of a path.
func (r rig) bytes(p, want string) {
	r.Helper()
	id, e := r.x.Walk(p)
	n, e2 := r.x.Node(id)
	if e != api.OK || e2 != api.OK || string(n.Data) != want {
		r.Errorf("%s: %q %v %v, want %q", p, n.Data, e, e2, want)
	}
	r.want(api.Op{Kind: api.OpStat, Path: p}, api.Answer{Stat: api.Stat{Kind: isFile, Size: len(want), Links: n.Links}})
}

func mkdir(p string) api.Op      { return api.Op{Kind: api.OpMkdir, Path: p} }
func rmdir(p string) api.Op      { return api.Op{Kind: api.OpRmdir, Path: p} }
func unlink(p string) api.Op     { return api.Op{Kind: api.OpUnlink, Path: p} }
func link(p, to string) api.Op   { return api.Op{Kind: api.OpLink, Path: p, To: to} }
func rename(p, to string) api.Op { return api.Op{Kind: api.OpRename, Path: p, To: to} }
func cut(p string, n int) api.Op { return api.Op{Kind: api.OpCut, Path: p, N: n} }
func stat(p string) api.Op       { return api.Op{Kind: api.OpStat, Path: p} }
func list(p string) api.Op       { return api.Op{Kind: api.OpList, Path: p} }
func closing(fd int) api.Op      { return api.Op{Kind: api.OpClose, Fd: fd} }
func read(fd, n int) api.Op      { return api.Op{Kind: api.OpRead, Fd: fd, N: n} }
func seek(fd, off int) api.Op    { return api.Op{Kind: api.OpSeek, Fd: fd, Off: off} }
func fsync(fd int) api.Op        { return api.Op{Kind: api.OpFsync, Fd: fd} }
func opening(p string, flags int) api.Op {
	return api.Op{Kind: api.OpOpen, Path: p, Flags: flags}
}
func write(fd int, data string) api.Op {
	return api.Op{Kind: api.OpWrite, Fd: fd, Data: []byte(data)}
}

// many is /x with n names in all.
func many(n int) string { return strings.Repeat("/x", n) }

// 25.1: the chapter's example.
func TestExample(t *testing.T) {
	r := newRig(t)
	r.done(mkdir("/a"))
	r.refused(mkdir("/a"), api.ErrExist)
}

// 25.1, 25.2: a tree begins with its root alone.
func TestNew(t *testing.T) {
	r := newRig(t)
	r.paths("/ 1")
	r.node(1, tree.Node{Kind: isDir, Links: 1})
	r.want(stat("/"), api.Answer{Stat: api.Stat{Kind: isDir, Links: 1}})
	r.want(list("/"), api.Answer{})
	if l := r.x.Open().Used(); len(l) != 0 {
		t.Errorf("open: %v", l)
	}
	for _, id := range []int{0, -1, 2, 3, math.MinInt, math.MaxInt} {
		r.gone(id)
	}
	r.done(mkdir("/a"))
	if y := tree.New(); len(y.Paths()) != 1 {
		t.Errorf("two trees share their names")
	}
}

// shaped is a tree with the files /f (node 2, abc, open for reading at place 0) and /d/g (node 4, defg), and the directories /d, /e, /d/s and /d/s/t (nodes 3, 5, 6, 7).
func shaped(t *testing.T) rig {
	t.Helper()
	r := newRig(t)
	r.has("/f", "abc")
	r.done(mkdir("/d"))
	r.has("/d/g", "defg")
	r.done(mkdir("/e"), mkdir("/d/s"), mkdir("/d/s/t"))
	r.open("/f", forRead, 0)
	return r
}

// 25.1: paths that Split refuses, a file and nothing on the way, for every kind that has a path, at each of its paths.
func TestWrongPaths(t *testing.T) {
	r := shaped(t)
	long := many(maxDepth + 1)
	cases := []struct {
		path string
		want api.Errno
	}{
		{"", api.ErrName}, {"a", api.ErrName}, {"f", api.ErrName}, {"//", api.ErrName}, {"/f/", api.ErrName}, {"/./f", api.ErrName},
		{"/..", api.ErrName}, {"/elevenbytes", api.ErrName}, {"/a b", api.ErrName}, {"/none/", api.ErrName}, {"/f//", api.ErrName},
		{long, api.ErrLong}, {"/f" + many(maxDepth), api.ErrLong}, {long + "/", api.ErrName},
		{"/f/g", api.ErrNotDir}, {"/f/g/h", api.ErrNotDir}, {"/d/g/x", api.ErrNotDir}, {"/d/g/x/y", api.ErrNotDir},
		{"/none/x", api.ErrNoEnt}, {"/d/none/x", api.ErrNoEnt}, {"/d/s/t/u/v", api.ErrNoEnt}, {many(maxDepth), api.ErrNoEnt},
	}
	for _, c := range cases {
		for _, o := range []api.Op{
			opening(c.path, forRead), opening(c.path, forRead|create), opening(c.path, forWrite|create|only|cutting),
			cut(c.path, -1), cut(c.path, 0), cut(c.path, maxSize+1), mkdir(c.path), rmdir(c.path), unlink(c.path), stat(c.path), list(c.path),
			link(c.path, "/n"), link(c.path, "/"), link(c.path, "/d"), link(c.path, ""), link("/f", c.path),
			rename(c.path, "/n"), rename("/f", c.path), rename("/e", c.path),
		} {
			r.refused(o, c.want)
		}
		if id, e := r.x.Walk(c.path); id != 0 || e != c.want {
			t.Errorf("Walk(%q): %d %v, want %v", c.path, id, e, c.want)
		}
	}
	for _, o := range []api.Op{opening("/n", forRead), cut("/n", 1), rmdir("/n"), unlink("/n"), stat("/n"), list("/n"), link("/n", "/m"), rename("/n", "/m"), opening("/d/n", forWrite|cutting)} {
		r.refused(o, api.ErrNoEnt)
	}
}

// 25.1: which paths' errors come first, where there are two.
func TestTwoPaths(t *testing.T) {
	r := shaped(t)
	long := many(maxDepth + 1)
	r.refused(link(long, "a"), api.ErrLong)
	r.refused(link("/none", "a"), api.ErrNoEnt)
	r.refused(link("/f/x", long), api.ErrNotDir)
	r.refused(link("/d", "a"), api.ErrIsDir)
	r.refused(link("/d", "/"), api.ErrIsDir)
	r.refused(link("/", "/d"), api.ErrIsDir)
	// Of a rename both paths are split ahead of anything else.
	r.refused(rename(long, "a"), api.ErrLong)
	r.refused(rename("a", long), api.ErrName)
	r.refused(rename("/none", "a"), api.ErrName)
	r.refused(rename("/none", long), api.ErrLong)
	r.refused(rename("/f/x", "a"), api.ErrName)
	r.refused(rename("/", "a"), api.ErrName)
	r.refused(rename("/", long), api.ErrLong)
	r.refused(rename("a", "/"), api.ErrName)
	r.refused(rename("/none", "/"), api.ErrBusy)
	r.refused(rename("/f/x", "/"), api.ErrBusy)
	r.refused(rename("/", "/f/x"), api.ErrBusy)
	r.refused(rename("/", "/"), api.ErrBusy)
	r.refused(rename("/", "/d"), api.ErrBusy)
	r.refused(rename("/d", "/"), api.ErrBusy)
	r.refused(rename("/none", "/f/x"), api.ErrNoEnt)
	r.refused(rename("/f/x", "/none/x"), api.ErrNotDir)
	r.refused(rename("/none/x", "/f/x"), api.ErrNoEnt)
}

// 25.1: all flags from far below 0 to beyond the five, of a path that is none, one that is not there, a file, a directory and /.
func TestFlags(t *testing.T) {
	for flags := -70; flags < 140; flags++ {
		may := flags >= 0 && flags < 32
		may = may && (flags%2 == 1 || flags/2%2 == 1)
		may = may && !(flags/8%2 == 1 && flags/4%2 == 0)
		may = may && !(flags/16%2 == 1 && flags/2%2 == 0)
		r := shaped(t)
		id, _ := r.x.Walk("/f")
		if !may {
			for _, p := range []string{"", "/", "/none", "/none/x", "/f", "/f/x", "/d", many(maxDepth + 1)} {
				r.refused(opening(p, flags), api.ErrArg)
			}
			continue
		}
		r.refused(opening("", flags), api.ErrName)
		r.refused(opening("/", flags), api.ErrIsDir)
		wantDir := api.ErrIsDir
		if flags/8%2 == 1 {
			wantDir = api.ErrExist
			r.refused(opening("/f", flags), api.ErrExist)
		} else {
			r.open("/f", flags, 1)
			r.wantOpen(1, fds.File{Ino: id, Mode: flags % 4})
		}
		r.refused(opening("/d", flags), wantDir)
		data := "abc"
		if flags/16%2 == 1 && flags/8%2 == 0 {
			data = ""
		}
		r.bytes("/f", data)
		if flags/4%2 == 0 {
			r.refused(opening("/n", flags), api.ErrNoEnt)
			continue
		}
		fd := r.ok(opening("/n", flags)).N
		id, e := r.x.Walk("/n")
		if e != api.OK || id != 8 {
			t.Errorf("flags %d: node %d %v", flags, id, e)
		}
		r.wantOpen(fd, fds.File{Ino: 8, Mode: flags % 4})
		r.node(8, tree.Node{Kind: isFile, Links: 1})
	}
	for _, flags := range []int{math.MinInt, math.MaxInt, math.MinInt | forRead, 1<<40 | forRead, 32 | 7, 64 | 7} {
		newRig(t).refused(opening("/n", flags), api.ErrArg)
	}
}

// wantOpen wants just that file at fd.
func (r rig) wantOpen(fd int, want fds.File) {
	r.Helper()
	if f, e := r.x.Open().Get(fd); e != api.OK || f != want {
		r.Errorf("place %d: %+v %v, want %+v", fd, f, e, want)
	}
}

// 25.1: a ninth file is refused, behind all else, and a free place is the first one.
func TestFull(t *testing.T) {
	r := newRig(t)
	r.has("/f", "abc")
	r.done(mkdir("/d"))
	for fd := range maxFds {
		r.open("/f", forRead, fd)
	}
	for _, o := range []api.Op{opening("/f", forRead), opening("/f", forWrite|cutting), opening("/n", forRead|create), opening("/d/n", forWrite|create|only|cutting)} {
		r.refused(o, api.ErrFiles)
	}
	r.refused(opening("/f", 0), api.ErrArg)
	r.refused(opening("/n", forRead), api.ErrNoEnt)
	r.refused(opening("/d", forRead), api.ErrIsDir)
	r.refused(opening("/f", forRead|create|only), api.ErrExist)
	r.refused(opening("/d", forRead|create|only), api.ErrExist)
	r.refused(opening("/", forRead), api.ErrIsDir)
	r.refused(opening("/f/x", forRead|create), api.ErrNotDir)
	r.done(closing(3), closing(5))
	r.open("/n", forRead|create, 3)
	r.open("/f", forWrite, 5)
	if id, e := r.x.Walk("/n"); id != 4 || e != api.OK {
		t.Errorf("Walk: %d %v; what was refused must not take a number", id, e)
	}
}

// 25.1: places that are free, or none, ahead of whatever else is wrong.
func TestBadFd(t *testing.T) {
	r := shaped(t)
	for _, fd := range []int{1, 2, maxFds - 1, maxFds, -1, math.MinInt, math.MaxInt} {
		for _, o := range []api.Op{
			closing(fd), read(fd, 1), read(fd, -1), read(fd, maxBytes+1), write(fd, "a"), write(fd, ""), write(fd, strings.Repeat("a", maxBytes+1)),
			seek(fd, 0), seek(fd, -1), seek(fd, maxSize+1), fsync(fd),
		} {
			r.refused(o, api.ErrBadFd)
		}
	}
	r.done(fsync(0), closing(0))
	r.refused(closing(0), api.ErrBadFd)
	r.refused(fsync(0), api.ErrBadFd)
}

// 25.1: bytes are read from the place on, as many as there are, and the place is behind them.
func TestRead(t *testing.T) {
	r := shaped(t)
	r.want(read(0, 2), api.Answer{Data: []byte("ab")})
	r.want(read(0, 0), api.Answer{})
	r.want(read(0, 2), api.Answer{Data: []byte("c")})
	r.want(read(0, 2), api.Answer{})
	r.wantOpen(0, fds.File{Ino: 2, Pos: 3, Mode: forRead})
	r.want(seek(0, 2), api.Answer{N: 2})
	r.want(read(0, maxBytes), api.Answer{Data: []byte("c")})
	r.want(seek(0, 100), api.Answer{N: 100})
	r.want(read(0, maxBytes), api.Answer{})
	r.wantOpen(0, fds.File{Ino: 2, Pos: 100, Mode: forRead})
	for _, n := range []int{-1, maxBytes + 1, math.MinInt, math.MaxInt} {
		r.refused(read(0, n), api.ErrArg)
	}
	r.open("/f", forWrite, 1)
	for _, n := range []int{0, 1, -1, maxBytes + 1, math.MinInt} {
		r.refused(read(1, n), api.ErrMode)
	}
	r.open("/f", forRead|forWrite, 2)
	r.want(read(2, 9), api.Answer{Data: []byte("abc")})
}

// 25.1: bytes are written from the place on, with noughts between, and the place is behind them.
func TestWrite(t *testing.T) {
	r := shaped(t)
	for _, data := range []string{"", "a", strings.Repeat("a", maxBytes+1)} {
		r.refused(write(0, data), api.ErrMode)
	}
	r.open("/f", forWrite, 1)
	r.want(write(1, "XY"), api.Answer{N: 2})
	r.bytes("/f", "XYc")
	r.want(write(1, "Z12"), api.Answer{N: 3})
	r.bytes("/f", "XYZ12")
	r.wantOpen(1, fds.File{Ino: 2, Pos: 5, Mode: forWrite})
	r.wantOpen(0, fds.File{Ino: 2, Mode: forRead})
	r.ok(seek(1, 8))
	r.want(write(1, ""), api.Answer{})
	r.bytes("/f", "XYZ12") // no bytes stand nowhere
	r.wantOpen(1, fds.File{Ino: 2, Pos: 8, Mode: forWrite})
	r.want(write(1, "e"), api.Answer{N: 1})
	r.bytes("/f", "XYZ12\x00\x00\x00e")
	r.want(read(0, 9), api.Answer{Data: []byte("XYZ12\x00\x00\x00e")})
	r.ok(seek(1, 0))
	all := strings.Repeat("q", maxBytes)
	r.want(write(1, all), api.Answer{N: maxBytes})
	r.bytes("/f", all)
	r.refused(write(1, all+"q"), api.ErrArg)
}

// 25.1: a file ends at MaxSize at most; more than MaxBytes comes ahead of that.
func TestBig(t *testing.T) {
	r := shaped(t)
	r.open("/f", forRead|forWrite, 1)
	r.ok(seek(1, maxSize-2))
	r.refused(write(1, "abc"), api.ErrBig)
	r.refused(write(1, strings.Repeat("a", maxBytes)), api.ErrBig)
	r.refused(write(1, strings.Repeat("a", maxBytes+1)), api.ErrArg)
	r.want(write(1, "ab"), api.Answer{N: 2})
	r.want(write(1, ""), api.Answer{})
	r.refused(write(1, "a"), api.ErrBig)
	r.bytes("/f", "abc"+strings.Repeat("\x00", maxSize-5)+"ab")
	r.want(seek(1, maxSize), api.Answer{N: maxSize})
	r.refused(write(1, "a"), api.ErrBig)
	r.want(read(1, 9), api.Answer{})
	r.ok(seek(1, maxSize-3))
	r.want(read(1, 9), api.Answer{Data: []byte("\x00ab")})
}

// 25.1: a place in a file is from 0 to MaxSize, be it within that file or not.
func TestSeek(t *testing.T) {
	r := shaped(t)
	for _, off := range []int{maxSize, 3, 0, 1, 4000} {
		r.want(seek(0, off), api.Answer{N: off})
		r.wantOpen(0, fds.File{Ino: 2, Pos: off, Mode: forRead})
	}
	for _, off := range []int{-1, maxSize + 1, math.MinInt, math.MaxInt} {
		r.refused(seek(0, off), api.ErrArg)
	}
	r.bytes("/f", "abc")
}

// 25.1: a file that is cut has its first bytes, and noughts.
func TestCut(t *testing.T) {
	r := shaped(t)
	for _, n := range []int{0, -1, maxSize, maxSize + 1, math.MinInt, math.MaxInt} {
		r.refused(cut("/d", n), api.ErrIsDir)
		r.refused(cut("/", n), api.ErrIsDir)
	}
	r.refused(cut("/f", -1), api.ErrArg)
	r.refused(cut("/f", math.MinInt), api.ErrArg)
	r.refused(cut("/f", maxSize+1), api.ErrBig)
	r.refused(cut("/f", math.MaxInt), api.ErrBig)
	r.done(cut("/f", 3))
	r.bytes("/f", "abc")
	r.done(cut("/f", 2))
	r.bytes("/f", "ab")
	r.done(cut("/f", 4))
	r.bytes("/f", "ab\x00\x00")
	r.ok(seek(0, 4))
	r.done(cut("/f", 0))
	r.bytes("/f", "")
	r.wantOpen(0, fds.File{Ino: 2, Pos: 4, Mode: forRead})
	r.done(cut("/f", maxSize))
	r.bytes("/f", strings.Repeat("\x00", maxSize))
	r.want(read(0, 2), api.Answer{Data: []byte{0, 0}})
}

// 25.1: FlagCut empties a file that is open elsewhere, too, whose places stay.
func TestFlagCut(t *testing.T) {
	r := shaped(t)
	r.done(link("/f", "/d/h"))
	r.want(read(0, 2), api.Answer{Data: []byte("ab")})
	r.open("/d/h", forWrite|cutting, 1)
	r.bytes("/f", "")
	r.wantOpen(0, fds.File{Ino: 2, Pos: 2, Mode: forRead})
	r.want(read(0, 2), api.Answer{})
	r.want(write(1, "xyz"), api.Answer{N: 3})
	r.want(read(0, 2), api.Answer{Data: []byte("z")})
}

// 25.1: directories are made in directories, with every wrong end of the path.
func TestMkdir(t *testing.T) {
	r := shaped(t)
	for _, p := range []string{"/", "/f", "/d", "/d/g", "/d/s/t"} {
		r.refused(mkdir(p), api.ErrExist)
	}
	r.done(mkdir("/d/s/t/u"))
	r.paths("/ 1", "/d 3", "/d/g 4", "/d/s 6", "/d/s/t 7", "/d/s/t/u 8", "/e 5", "/f 2")
	r.node(8, tree.Node{Kind: isDir, Links: 1})
	r.node(7, tree.Node{Kind: isDir, Links: 1, Names: []api.Entry{{Ino: 8, Name: "u"}}})
	r.want(stat("/d"), api.Answer{Stat: api.Stat{Kind: isDir, Links: 1}})
	for i := 1; i <= maxDepth; i++ {
		r.done(mkdir(many(i)))
	}
	r.refused(mkdir(many(maxDepth+1)), api.ErrLong)
}

// 25.1: an empty directory loses its name and is gone, with every wrong end of the path.
func TestRmdir(t *testing.T) {
	r := shaped(t)
	r.refused(rmdir("/"), api.ErrBusy)
	r.refused(rmdir("/f"), api.ErrNotDir)
	r.refused(rmdir("/d/g"), api.ErrNotDir)
	r.refused(rmdir("/d"), api.ErrNotEmpty)
	r.refused(rmdir("/d/s"), api.ErrNotEmpty)
	r.done(rmdir("/d/s/t"))
	r.gone(7)
	r.refused(rmdir("/d/s/t"), api.ErrNoEnt)
	r.done(rmdir("/d/s"), rmdir("/e"))
	r.gone(6)
	r.gone(5)
	r.done(mkdir("/e"))
	r.paths("/ 1", "/d 3", "/d/g 4", "/e 8", "/f 2")
}

// 25.1: a file has one more name, with every wrong end of both paths.
func TestLink(t *testing.T) {
	r := shaped(t)
	for _, p := range []string{"/", "/f", "/d", "/d/g"} {
		r.refused(link("/f", p), api.ErrExist)
	}
	for _, p := range []string{"/", "/d", "/e", "/d/s"} {
		r.refused(link(p, "/n"), api.ErrIsDir)
	}
	r.done(link("/f", "/n"), link("/n", "/d/s/t/f"))
	r.paths("/ 1", "/d 3", "/d/g 4", "/d/s 6", "/d/s/t 7", "/d/s/t/f 2", "/e 5", "/f 2", "/n 2")
	r.node(2, tree.Node{Kind: isFile, Links: 3, Data: []byte("abc")})
	r.done(cut("/d/s/t/f", 1))
	r.bytes("/f", "a")
	r.want(stat("/n"), api.Answer{Stat: api.Stat{Kind: isFile, Size: 1, Links: 3}})
}

// crowd gives /f just so many names: /f, and the others in directory /c.
func (r rig) crowd(links int) {
	r.Helper()
	r.done(mkdir("/c"))
	for i := 1; i < links; i++ {
		r.done(link("/f", "/c/"+fmt.Sprint(i)))
	}
	r.want(stat("/f"), api.Answer{Stat: api.Stat{Kind: isFile, Size: 3, Links: links}})
}

// 25.1: a file has MaxLinks names at most, to be linked and to be renamed.
func TestMaxLinks(t *testing.T) {
	r := shaped(t)
	r.crowd(maxLinks - 1)
	r.done(rename("/f", "/h"), rename("/h", "/f"), link("/f", "/n"))
	r.refused(link("/f", "/m"), api.ErrLinks)
	r.refused(link("/f", "/n"), api.ErrExist)
	r.refused(link("/f", "/none/m"), api.ErrNoEnt)
	r.refused(rename("/f", "/m"), api.ErrLinks)
	r.refused(rename("/c/1", "/d/m"), api.ErrLinks)
	r.refused(rename("/f", "/d/g"), api.ErrLinks)
	r.refused(rename("/f", "/d"), api.ErrIsDir)
	r.refused(rename("/f", "/e"), api.ErrIsDir)
	before := told(t, r.x)
	r.done(rename("/f", "/n"), rename("/f", "/f"), rename("/c/1", "/c/2"))
	if after := told(t, r.x); !reflect.DeepEqual(before, after) {
		t.Errorf("a rename to the same node changed the tree")
	}
	r.done(rename("/d/g", "/f")) // what comes has one name; what was there has 199 then
	r.want(stat("/n"), api.Answer{Stat: api.Stat{Kind: isFile, Size: 3, Links: maxLinks - 1}})
	r.done(rename("/n", "/m"), link("/m", "/n"))
	r.refused(link("/m", "/o"), api.ErrLinks)
	r.done(unlink("/c/7"), link("/m", "/c/7"))
}

// 25.1: a name is taken away, with every wrong end of the path.
func TestUnlink(t *testing.T) {
	r := shaped(t)
	for _, p := range []string{"/", "/d", "/e", "/d/s"} {
		r.refused(unlink(p), api.ErrIsDir)
	}
	r.done(link("/d/g", "/n"), unlink("/d/g"))
	r.refused(unlink("/d/g"), api.ErrNoEnt)
	r.bytes("/n", "defg")
	r.done(unlink("/n"))
	r.gone(4)
	r.paths("/ 1", "/d 3", "/d/s 6", "/d/s/t 7", "/e 5", "/f 2")
}

// 25.1, 25.2: a file without names is there as long as it is open at one place.
func TestOpenWithoutName(t *testing.T) {
	r := shaped(t)
	r.open("/f", forRead|forWrite, 1)
	r.done(link("/f", "/n"), unlink("/f"))
	r.node(2, tree.Node{Kind: isFile, Links: 1, Data: []byte("abc")})
	r.done(unlink("/n"))
	r.node(2, tree.Node{Kind: isFile, Data: []byte("abc")})
	r.paths("/ 1", "/d 3", "/d/g 4", "/d/s 6", "/d/s/t 7", "/e 5")
	r.refused(stat("/f"), api.ErrNoEnt)
	r.open("/f", forRead|create, 2) // another one, of that name
	r.node(8, tree.Node{Kind: isFile, Links: 1})
	r.ok(seek(1, 3))
	r.want(write(1, "de"), api.Answer{N: 2})
	r.want(read(0, 9), api.Answer{Data: []byte("abcde")})
	r.want(read(2, 9), api.Answer{})
	r.done(fsync(1), closing(0))
	r.node(2, tree.Node{Kind: isFile, Data: []byte("abcde")})
	r.ok(seek(1, 1))
	r.want(read(1, 9), api.Answer{Data: []byte("bcde")})
	r.done(closing(1))
	r.gone(2)
	r.done(closing(2))
	r.node(8, tree.Node{Kind: isFile, Links: 1})
	r.done(unlink("/f"))
	r.gone(8)
}

// 25.1: what a rename takes the name from is there as long as it is open.
func TestOpenRenamedOnto(t *testing.T) {
	r := shaped(t)
	r.done(rename("/d/g", "/f"))
	r.bytes("/f", "defg")
	r.node(2, tree.Node{Kind: isFile, Data: []byte("abc")})
	r.want(read(0, 9), api.Answer{Data: []byte("abc")})
	r.done(closing(0))
	r.gone(2)
	r.paths("/ 1", "/d 3", "/d/s 6", "/d/s/t 7", "/e 5", "/f 4")
}

// 25.1: a node's name is another one instead, within its directory, and in others.
func TestRename(t *testing.T) {
	r := shaped(t)
	r.done(rename("/f", "/h"))
	r.paths("/ 1", "/d 3", "/d/g 4", "/d/s 6", "/d/s/t 7", "/e 5", "/h 2")
	r.done(rename("/h", "/d/s/h"), rename("/d/s/h", "/d/h"))
	r.paths("/ 1", "/d 3", "/d/g 4", "/d/h 2", "/d/s 6", "/d/s/t 7", "/e 5")
	r.want(read(0, 9), api.Answer{Data: []byte("abc")})
	r.done(rename("/d/s", "/s"))
	r.paths("/ 1", "/d 3", "/d/g 4", "/d/h 2", "/e 5", "/s 6", "/s/t 7")
	r.done(rename("/d", "/s/t/d"))
	r.paths("/ 1", "/e 5", "/s 6", "/s/t 7", "/s/t/d 3", "/s/t/d/g 4", "/s/t/d/h 2")
	r.done(rename("/s/t/d/g", "/g"))
	r.paths("/ 1", "/e 5", "/g 4", "/s 6", "/s/t 7", "/s/t/d 3", "/s/t/d/h 2")
	for _, id := range []int{1, 3, 4, 5, 6, 7} {
		if n, e := r.x.Node(id); e != api.OK || n.Links != 1 {
			t.Errorf("Node(%d): %+v %v", id, n, e)
		}
	}
}

// 25.1: a directory does not come into itself, nor below; a file on the way is none.
func TestInside(t *testing.T) {
	r := shaped(t)
	for _, p := range []string{"/d/n", "/d/g", "/d/s", "/d/s/t", "/d/s/n", "/d/none/n", "/d/g/n"} {
		r.refused(rename("/d", p), api.ErrInside)
	}
	r.refused(rename("/d/s", "/d/s/n"), api.ErrInside)
	r.refused(rename("/e", "/e/e"), api.ErrInside)
	r.refused(rename("/f", "/f/n"), api.ErrNotDir)
	r.refused(rename("/f", "/f/n/m"), api.ErrNotDir)
	r.refused(rename("/d/g", "/d/g/g"), api.ErrNotDir)
	r.refused(rename("/n", "/n/m"), api.ErrNoEnt)
	r.done(rename("/d", "/dd"), rename("/dd/s", "/d"), rename("/dd", "/d/dd"))
	r.paths("/ 1", "/d 6", "/d/dd 3", "/d/dd/g 4", "/d/t 7", "/e 5", "/f 2")
}

// 25.1: what is there already, and another node: of which kinds, and with which names.
func TestRenameOnto(t *testing.T) {
	r := shaped(t)
	r.refused(rename("/d", "/f"), api.ErrNotDir)
	r.refused(rename("/e", "/d/g"), api.ErrNotDir)
	r.refused(rename("/f", "/d"), api.ErrIsDir)
	r.refused(rename("/f", "/e"), api.ErrIsDir)
	r.refused(rename("/d/g", "/d"), api.ErrIsDir)
	r.refused(rename("/e", "/d"), api.ErrNotEmpty)
	r.refused(rename("/d/s", "/d"), api.ErrNotEmpty)
	r.refused(rename("/d/s/t", "/d"), api.ErrNotEmpty)
	r.refused(rename("/d/s/t", "/d/s"), api.ErrNotEmpty)
	r.done(rename("/d", "/e"))
	r.gone(5)
	r.paths("/ 1", "/e 3", "/e/g 4", "/e/s 6", "/e/s/t 7", "/f 2")
	r.node(3, tree.Node{Kind: isDir, Links: 1, Names: []api.Entry{{Ino: 4, Name: "g"}, {Ino: 6, Name: "s"}}})
	r.done(closing(0), rename("/e/g", "/f"))
	r.gone(2)
	r.paths("/ 1", "/e 3", "/e/s 6", "/e/s/t 7", "/f 4")
}

// 25.1: what is there already, and the same node: nothing.
func TestRenameSame(t *testing.T) {
	r := shaped(t)
	r.done(link("/f", "/d/h"), link("/f", "/h"))
	before := told(t, r.x)
	for _, o := range []api.Op{rename("/f", "/f"), rename("/f", "/h"), rename("/h", "/f"), rename("/d/h", "/f"), rename("/f", "/d/h"), rename("/d", "/d"), rename("/e", "/e"), rename("/d/s", "/d/s")} {
		r.done(o)
		if after := told(t, r.x); !reflect.DeepEqual(before, after) {
			t.Errorf("%+v changed the tree", o)
		}
	}
	r.done(rename("/d/g", "/h")) // one of three names is another file's now
	r.want(stat("/f"), api.Answer{Stat: api.Stat{Kind: isFile, Size: 3, Links: 2}})
	r.bytes("/h", "defg")
}

// 25.1: what is told of a path.
func TestStatList(t *testing.T) {
	r := shaped(t)
	r.want(stat("/f"), api.Answer{Stat: api.Stat{Kind: isFile, Size: 3, Links: 1}})
	r.want(stat("/d/g"), api.Answer{Stat: api.Stat{Kind: isFile, Size: 4, Links: 1}})
	r.want(stat("/d"), api.Answer{Stat: api.Stat{Kind: isDir, Links: 1}})
	r.want(stat("/"), api.Answer{Stat: api.Stat{Kind: isDir, Links: 1}})
	r.want(list("/"), api.Answer{Names: []string{"d", "e", "f"}})
	r.want(list("/d"), api.Answer{Names: []string{"g", "s"}})
	r.want(list("/e"), api.Answer{})
	r.refused(list("/f"), api.ErrNotDir)
	r.refused(list("/d/g"), api.ErrNotDir)
	// Names rise by their bytes, whenever they came.
	for _, name := range []string{"b", "a", "B", "~", "!", "ab", "aa", "10", "9", "z"} {
		r.done(mkdir("/e/" + name))
	}
	r.want(list("/e"), api.Answer{Names: []string{"!", "10", "9", "B", "a", "aa", "ab", "b", "z", "~"}})
	id, _ := r.x.Walk("/e")
	n, _ := r.x.Node(id)
	var names []string
	for _, x := range n.Names {
		names = append(names, x.Name)
		if id, e := r.x.Walk("/e/" + x.Name); e != api.OK || id != x.Ino {
			t.Errorf("%v leads to %d %v", x, id, e)
		}
	}
	if !slices.Equal(names, []string{"!", "10", "9", "B", "a", "aa", "ab", "b", "z", "~"}) {
		t.Errorf("Node: %v", names)
	}
}

// 25.1: fsync and sync do nothing.
func TestSync(t *testing.T) {
	r := shaped(t)
	before := told(t, r.x)
	r.done(fsync(0), api.Op{Kind: api.OpSync}, api.Op{Kind: api.OpSync, Path: "a", Fd: -1, N: -1, Flags: -1})
	if after := told(t, r.x); !reflect.DeepEqual(before, after) {
		t.Errorf("sync changed the tree")
	}
}

// 25.1: a kind that there is not.
func TestKinds(t *testing.T) {
	r := shaped(t)
	for _, kind := range []int{0, -1, 16, 17, 100, math.MinInt, math.MaxInt} {
		r.refused(api.Op{Kind: kind}, api.ErrArg)
		r.refused(api.Op{Kind: kind, Path: "/f", To: "/n", N: 1, Flags: 7, Data: []byte("a")}, api.ErrArg)
	}
}

// 25.2: numbers rise as nodes come, and none is given again.
func TestNumbers(t *testing.T) {
	r := newRig(t)
	for id := 2; id < 40; id += 2 {
		r.done(mkdir("/d"))
		r.paths("/ 1", fmt.Sprint("/d ", id))
		r.done(rmdir("/d"))
		r.gone(id)
		r.has("/f", "a")
		r.paths("/ 1", fmt.Sprint("/f ", id+1))
		r.gone(id + 2)
		r.done(unlink("/f"))
		r.gone(id + 1)
	}
	r.refused(mkdir("/"), api.ErrExist)
	r.refused(opening("/none/a", forRead|create), api.ErrNoEnt)
	r.done(mkdir("/d"))
	r.paths("/ 1", "/d 40")
}

// 25.2: paths rise as texts do, whatever byte a name has; a file has each of its names.
func TestPaths(t *testing.T) {
	r := newRig(t)
	r.done(mkdir("/a"), mkdir("/a/b"), mkdir("/a!"), mkdir("/a0"))
	r.has("/a/b/f", "")
	r.done(link("/a/b/f", "/a-"), link("/a-", "/a0/f"), link("/a-", "/Z"))
	r.paths("/ 1", "/Z 6", "/a 2", "/a! 4", "/a- 6", "/a/b 3", "/a/b/f 6", "/a0 5", "/a0/f 6")
}

// 25.2, 25.3: what a rename brought so far down that no path leads there has none, and is there.
func TestTooDeep(t *testing.T) {
	r := newRig(t)
	for i := 1; i < maxDepth; i++ {
		r.done(mkdir(many(i)))
	}
	r.has(many(maxDepth), "deep")
	deep, e := r.x.Walk(many(maxDepth))
	if e != api.OK {
		t.Fatal(e)
	}
	r.done(mkdir("/y"), rename("/x", "/y/x"))
	if l := r.x.Paths(); len(l) != 1+maxDepth {
		t.Errorf("%d paths: %v", len(l), l)
	}
	for _, p := range r.x.Paths() {
		if id, e := r.x.Walk(p.Path); e != api.OK || id != p.Id {
			t.Errorf("%+v leads to %d %v", p, id, e)
		}
	}
	r.node(deep, tree.Node{Kind: isFile, Links: 1, Data: []byte("deep")})
	r.refused(stat("/y"+many(maxDepth)), api.ErrLong)
	r.done(rename("/y/x", "/x"))
	r.bytes(many(maxDepth), "deep")
}

// 25.2: a copy has the same, and neither sees what is done to the other.
func TestCopy(t *testing.T) {
	r := shaped(t)
	r.ok(seek(0, 1))
	r.open("/f", forWrite, 1)
	c := rig{t, r.x.Copy()}
	if !reflect.DeepEqual(told(t, r.x), told(t, c.x)) {
		t.Fatalf("the copy is not the same")
	}
	before := told(t, r.x)
	c.want(write(1, "QQ"), api.Answer{N: 2})
	c.want(read(0, 1), api.Answer{Data: []byte("Q")})
	c.done(mkdir("/d/new"), unlink("/d/g"), rename("/f", "/e/f"), rmdir("/d/s/t"), closing(1), cut("/e/f", 9))
	c.open("/f", forRead|create, 1)
	if !reflect.DeepEqual(before, told(t, r.x)) {
		t.Errorf("what was done to the copy is seen")
	}
	then := told(t, c.x)
	r.want(write(1, "R"), api.Answer{N: 1})
	r.want(read(0, 1), api.Answer{Data: []byte("b")})
	r.done(mkdir("/g"), unlink("/f"), closing(0), closing(1))
	if !reflect.DeepEqual(then, told(t, c.x)) {
		t.Errorf("what was done to the tree is seen in its copy")
	}
	if id, e := r.x.Walk("/g"); id != 8 || e != api.OK {
		t.Errorf("the next node: %d %v", id, e)
	}
	if id, e := c.x.Walk("/f"); id != 9 || e != api.OK {
		t.Errorf("the copy's next nodes: %d %v", id, e)
	}
}

// 25.2: the table that is handed out is a copy.
func TestOpen(t *testing.T) {
	r := shaped(t)
	open := r.x.Open()
	if f, e := open.Get(0); e != api.OK || f != (fds.File{Ino: 2, Mode: forRead}) {
		t.Errorf("Get: %+v %v", f, e)
	}
	open.Seek(0, 2)
	open.Open(4, forWrite)
	r.want(read(0, 1), api.Answer{Data: []byte("a")})
	r.refused(closing(1), api.ErrBadFd)
	open.Close(0)
	r.done(closing(0))
	r.open("/d/g", forRead, 0)
	if f, e := open.Get(1); e != api.OK || f.Ino != 4 {
		t.Errorf("what is done to the tree is seen in its table: %+v %v", f, e)
	}
	if _, e := open.Get(0); e != api.ErrBadFd {
		t.Errorf("what is done to the tree is seen in its table: %v", e)
	}
}

// 25.1, 25.2: what is handed in is not kept nor changed, what is handed out is the caller's own.
func TestOwn(t *testing.T) {
	r := shaped(t)
	r.open("/f", forRead|forWrite, 1)
	data := []byte("hello")
	r.want(api.Op{Kind: api.OpWrite, Fd: 1, Data: data}, api.Answer{N: 5})
	copy(data, "XXXXX")
	r.bytes("/f", "hello")
	got := r.ok(read(0, 5)).Data
	copy(got, "YYYYY")
	got = append(got[:0:cap(got)], "ZZZZZZZZ"...)
	r.bytes("/f", "hello")
	n, _ := r.x.Node(2)
	copy(n.Data, "QQQQQ")
	r.bytes("/f", "hello")
	r.ok(seek(1, 0))
	given := []byte("jolly")
	r.ok(api.Op{Kind: api.OpWrite, Fd: 1, Data: given})
	r.ok(seek(1, 0))
	r.ok(write(1, "m"))
	if string(given) != "jolly" {
		t.Errorf("what was handed in is %q", given)
	}
	names := r.ok(list("/")).Names
	names[0] = "none"
	root, _ := r.x.Node(1)
	root.Names[1] = api.Entry{Ino: 9, Name: "none"}
	places := r.x.Paths()
	places[0] = tree.Place{Path: "none", Id: 9}
	r.want(list("/"), api.Answer{Names: []string{"d", "e", "f"}})
	r.node(1, tree.Node{Kind: isDir, Links: 1, Names: []api.Entry{{Ino: 3, Name: "d"}, {Ino: 5, Name: "e"}, {Ino: 2, Name: "f"}}})
	r.paths("/ 1", "/d 3", "/d/g 4", "/d/s 6", "/d/s/t 7", "/e 5", "/f 2")
}

// Rule 2: a tree that is none.
func TestNil(t *testing.T) {
	var x *tree.Tree
	for kind := -1; kind < 20; kind++ {
		for _, o := range []api.Op{{Kind: kind}, {Kind: kind, Path: "/", To: "a", Flags: 1, N: 1}} {
			if a := x.Do(o); !reflect.DeepEqual(a, api.Answer{Err: api.ErrNil}) {
				t.Errorf("Do(%+v): %+v", o, a)
			}
		}
	}
	for _, p := range []string{"/", "", "/a", many(maxDepth + 1)} {
		if id, e := x.Walk(p); id != 0 || e != api.ErrNil {
			t.Errorf("Walk(%q): %d %v", p, id, e)
		}
	}
	for _, id := range []int{0, 1, -1} {
		if n, e := x.Node(id); !reflect.DeepEqual(n, tree.Node{}) || e != api.ErrNil {
			t.Errorf("Node(%d): %+v %v", id, n, e)
		}
	}
	if x.Copy() != nil || len(x.Paths()) != 0 || x.Open() != nil {
		t.Errorf("Copy %v, Paths %v, Open %v", x.Copy(), x.Paths(), x.Open())
	}
}
