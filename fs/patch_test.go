package fs_test

import (
	"fmt"
	"testing"

	"scupper/api"
)

// The disk of these tests: /d (inode 4, of group 1) has f (inode 5, a file of 65 bytes in sectors 18 and 19) and e (inode 7, a directory without names, of group 2); g (inode 2) is a file without bytes. The root's names lie in sector 5, those of /d in sector 17.
func house() *image {
	m := blank(three)
	m.dir(1, names(ent(4, "d"), ent(2, "g")))
	m.dir(4, names(ent(5, "f"), ent(7, "e")))
	m.set(2, api.Inode{Kind: isFile, Links: 1})
	m.set(5, api.Inode{Kind: isFile, Links: 1, Size: 65, Direct: [4]uint16{uint16(m.take(1)), uint16(m.take(1))}})
	m.set(7, api.Inode{Kind: isDir, Links: 1})
	return m
}

// 26.1: a node is made: the inode's bit; the inode, of its kind, with one link, which needs that; the name, which needs the inode. In a directory without room a block is hung in.
func TestMake(t *testing.T) {
	for kind, make := range map[int]func(p string) api.Op{isDir: mkdir, isFile: func(p string) api.Op { return opening(p, forRead|create) }} {
		r := fresh(t, 9, blank(three))
		node := api.Inode{Kind: uint8(kind), Links: 1}
		r.takes(make("/a"), 1, 1)
		r.are(1,
			bit(three, 0, 16, 3),
			whole(three, 2, node, 1),
			bit(three, 0, 0, 1),
			content(5, ent(2, "a"), 1, 2),
			points(three, 1, 0, 5, 2, 3, 4),
			size(three, 1, 64, 5),
		)
		r.takes(make("/bc"), 0, 1)
		r.are(7, bit(three, 0, 16, 7), whole(three, 3, node, 7), added(5, 1, ent(3, "bc"), 1, 8))
		// The first free inode from the directory's group on, behind its own.
		r.says(1, true)
		r.takes(make("/d"), 0, 1)
		r.are(10, bit(three, 1, 16, 1), whole(three, 4, node, 10), added(5, 2, ent(4, "d"), 1, 11))
		r.says(3, true)
		r.same("inodes", []any{r.inode(2), r.inode(4)}, []any{node, node})
		r.same("written", r.d.Writes(), 0)
	}
}

// 26.1: in a directory of another group, which has room; the name comes behind those that were taken there.
func TestMakeThere(t *testing.T) {
	r := fresh(t, 9, house())
	r.takes(mkdir("/d/x"), 0, 1)
	r.are(1, bit(three, 1, 16, 7), whole(three, 6, api.Inode{Kind: isDir, Links: 1}, 1), added(17, 2, ent(6, "x"), 4, 2))
	r.says(2, true)
	r.clears()
	r.takes(opening("/d/e/y", forWrite|create|only|cutting), 1, 1)
	r.are(4,
		bit(three, 2, 16, 3),
		whole(three, 8, api.Inode{Kind: isFile, Links: 1}, 4),
		bit(three, 2, 0, 1),
		content(29, ent(8, "y"), 7, 5),
		points(three, 7, 0, 29, 8, 6, 7),
		size(three, 7, 64, 8),
	)
	r.says(4, true)
	r.done(unlink("/d/f"))
	next := r.next()
	gone := next - 3
	r.takes(mkdir("/d/z"), 0, 1)
	r.are(next, bit(three, 2, 16, 7), whole(three, 9, api.Inode{Kind: isDir, Links: 1}, next), added(17, 0, ent(9, "z"), 4, next+1, gone))
}

// 26.1: a link: one link more; the name, which needs that.
func TestLink(t *testing.T) {
	r := fresh(t, 9, house())
	r.takes(link("/d/f", "/x"), 0, 0)
	r.are(1, links(three, 5, 2), added(5, 2, ent(5, "x"), 1, 1))
	r.says(3, true)
	r.clears()
	r.takes(link("/x", "/d/e/x"), 1, 0)
	r.are(3,
		links(three, 5, 3),
		bit(three, 2, 0, 1),
		content(29, ent(5, "x"), 7, 3),
		points(three, 7, 0, 29, 5, 4, 5),
		size(three, 7, 64, 6),
	)
	r.says(6, true)
	r.want(stat("/d/f"), api.Answer{Stat: api.Stat{Kind: isFile, Size: 65, Links: 3}})
}

// 26.1: a name is taken, and lost: one link less, which needs that. The last one of a file that is not open: it is dropped, which needs all that is about it.
func TestUnlink(t *testing.T) {
	r := fresh(t, 9, house())
	r.done(link("/d/f", "/x"))
	r.clears()
	r.takes(unlink("/d/f"), 0, 0)
	r.are(3, lost(17, 0, 4, 5), links(three, 5, 1, 3))
	r.says(2, true)
	r.clears()
	r.takes(unlink("/x"), 0, 0)
	r.are(5, lost(5, 2, 1, 5), links(three, 5, 0, 5), whole(three, 5, api.Inode{}, 2, 3, 5))
	r.says(3, true)
	r.same("frees", fmt.Sprint(r.v.Pending()), "7 1")
	r.same("the inode", r.inode(5), api.Inode{})
	r.free(23, 4)
	r.done(sync())
	r.free(25, 5)
	r.says(0, true)
}

// 26.1: the groups of the blocks are marked, and those of the sectors of pointers, be these right or not; of a file that is open no less.
func TestUnlinkMarks(t *testing.T) {
	for x, groups := range map[api.Inode]uint32{
		{}:                                  1,
		{Direct: [4]uint16{0, 0, 37}}:       5,
		{Direct: [4]uint16{17, 5}}:          3,
		{Single: 25}:                        3,
		{Double: 36}:                        5,
		{Single: 17, Double: 29}:            7,
		{Single: 6, Double: 7}:              7,
		{Direct: [4]uint16{37}, Single: 25}: 7,
	} {
		m := blank(three)
		m.dir(1, names(ent(2, "f")))
		x.Kind, x.Links, x.Size = isFile, 1, 64
		m.set(2, x)
		m.l[6] = sealed(api.KindPtrs, table(map[int]int{26: 20}))
		m.l[7] = sealed(api.KindPtrs, table(map[int]int{1: 8, 26: 9}))
		m.l[9] = sealed(api.KindPtrs, table(map[int]int{0: 30}))
		r := fresh(t, 9, m)
		r.takes(unlink("/f"), 0, 0)
		r.are(1, lost(5, 0, 1, 2), links(three, 2, 0, 1), whole(three, 2, api.Inode{}, 1))
		r.says(groups, true)
		r = fresh(t, 9, m)
		r.open("/f", forWrite, 0)
		r.takes(unlink("/f"), 0, 0)
		r.are(1, lost(5, 0, 1, 2), links(three, 2, 0, 1))
		r.says(groups, true)
		r.clears()
		r.done(closing(0))
		r.are(3, whole(three, 2, api.Inode{}, 1))
		r.says(groups, true)
	}
	// One that keeps a name keeps what it has: the groups of that are not marked.
	m := blank(three)
	m.dir(1, names(ent(2, "f"), ent(2, "g")))
	m.set(2, api.Inode{Kind: isFile, Links: 2, Size: 64, Direct: [4]uint16{37}})
	r := fresh(t, 9, m)
	r.takes(unlink("/f"), 0, 0)
	r.are(1, lost(5, 0, 1, 2), links(three, 2, 1, 1))
	r.says(1, true)
}

// 26.1: the last name of a file that is open is lost: nothing is dropped till it is closed where it was open last; then it is, which needs all that is about it.
func TestUnlinkOpen(t *testing.T) {
	r := fresh(t, 9, house())
	r.open("/d/f", forRead, 0)
	r.open("/d/f", forRead|forWrite, 1)
	r.takes(unlink("/d/f"), 0, 0)
	r.are(1, lost(17, 0, 4, 5), links(three, 5, 0, 1))
	r.same("frees", fmt.Sprint(r.v.Pending()), "2 0")
	r.refused(stat("/d/f"), api.ErrNoEnt)
	r.want(seek(1, 60), api.Answer{N: 60})
	r.want(write(1, "abc"), api.Answer{N: 3})
	r.want(read(0, 3), api.Answer{Data: make([]byte, 3)})
	r.done(closing(0))
	r.same("the next number", r.next(), 4)
	r.want(seek(1, 59), api.Answer{N: 59})
	r.want(read(1, 9), api.Answer{Data: []byte("\x00abc\x00\x00")})
	r.takes(closing(1), 0, 0)
	r.are(4, whole(three, 5, api.Inode{}, 1))
	r.same("frees", fmt.Sprint(r.v.Pending()), "4 1")
	r.refused(closing(1), api.ErrBadFd)
	r.done(sync())
	r.free(25, 5)
	// Closed when all is stable: then it needs nothing.
	r = fresh(t, 9, house())
	r.open("/d/f", forRead, 0)
	r.done(unlink("/d/f"), sync())
	r.says(2, true)
	next := r.next()
	r.done(closing(0))
	r.are(next, whole(three, 5, api.Inode{}))
}

// 26.1: a file that has names is not dropped when it is closed.
func TestClose(t *testing.T) {
	r := fresh(t, 9, house())
	r.open("/d/f", forRead, 0)
	r.done(closing(0))
	r.same("the next number", r.next(), 1)
	r.bytes("/d/f", string(make([]byte, 65)))
	r.open("/g", forRead, 0)
	r.done(link("/g", "/h"), unlink("/g"))
	next := r.next()
	r.done(closing(0))
	r.same("the next number", r.next(), next)
	r.bytes("/h", "")
}

// 26.1: a directory's name is taken behind all patches by it; it is lost, and dropped, behind all about it.
func TestRmdir(t *testing.T) {
	r := fresh(t, 9, house())
	r.takes(rmdir("/d/e"), 0, 0)
	r.are(1, lost(17, 1, 4, 7), links(three, 7, 0, 1), whole(three, 7, api.Inode{}, 1))
	r.says(6, true)
	r = fresh(t, 9, house())
	r.done(mkdir("/d/e/x"), rmdir("/d/e/x"))
	by, about := r.v.By(7), r.v.About(7)
	r.same("by it", len(by) > 3, true)
	next := r.next()
	r.takes(rmdir("/d/e"), 0, 0)
	r.are(next, lost(17, 1, 4, 7, by...), links(three, 7, 0, next), whole(three, 7, api.Inode{}, append(about, next)...))
	r.done(sync())
	r.free(23, 5)
	r.refused(list("/d/e"), api.ErrNoEnt)
	// One that was just made: its own patches are by it, its name's about it.
	next = r.next()
	r.done(mkdir("/m"))
	r.are(next, bit(three, 0, 16, 7), whole(three, 3, api.Inode{Kind: isDir, Links: 1}, next), added(5, 2, ent(3, "m"), 1, next+1))
	r.done(rmdir("/m"))
	r.are(next+3, lost(5, 2, 1, 3, next+1), links(three, 3, 0, next+3), whole(three, 3, api.Inode{}, next+2, next+3))
}

// 26.1: a rename onto nothing: a link more; the name, which needs that; the old name is taken, behind that and all by each directory on the way; the links as they were, behind that.
func TestRename(t *testing.T) {
	// Within a directory: on the way is the root alone.
	r := fresh(t, 9, house())
	r.takes(rename("/g", "/h"), 0, 0)
	r.are(1, links(three, 2, 2), added(5, 2, ent(2, "h"), 1, 1), lost(5, 1, 1, 2, 2, 2), links(three, 2, 1, 3))
	r.says(1, true)
	r.want(list("/"), api.Answer{Names: []string{"d", "h"}})
	// Into another one: the root, /d and /d/e are, but not what Path lies in.
	r = fresh(t, 9, house())
	r.patch(5, 50, api.KindDir, 1)
	for _, owner := range []int{1, 4, 7, 2, 4, 1} {
		_, e := r.v.Patch(api.Patch{At: 13, Data: []byte{1}, Owner: owner})
		r.same("Patch", e, api.OK)
	}
	r.clears()
	r.takes(rename("/g", "/d/e/h"), 1, 0)
	r.are(8,
		links(three, 2, 2),
		bit(three, 2, 0, 1),
		content(29, ent(2, "h"), 7, 8),
		points(three, 7, 0, 29, 2, 9, 10),
		size(three, 7, 64, 11),
		lost(5, 1, 1, 2, 12, 2, 7, 3, 6, 4, 10, 11, 12),
		links(three, 2, 1, 13),
	)
	r.says(5, true)
	r.done(mkdir("/d/m"))
	by := append(r.v.By(1), r.v.By(4)...)
	next := r.next()
	r.clears()
	// And back from there: where it came from is not on the way, nor is what is renamed.
	r.takes(rename("/d/e/h", "/d/g"), 0, 0)
	r.are(next,
		links(three, 2, 2),
		added(17, 3, ent(2, "g"), 4, next),
		lost(29, 0, 7, 2, append(append([]int{next + 1}, by...), next+1)...),
		links(three, 2, 1, next+2),
	)
	r.says(7, true)
}

// 26.1: a directory is renamed likewise.
func TestRenameDir(t *testing.T) {
	r := fresh(t, 9, house())
	r.takes(rename("/d/e", "/e"), 0, 0)
	r.are(1, links(three, 7, 2), added(5, 2, ent(7, "e"), 1, 1), lost(17, 1, 4, 7, 2, 2), links(three, 7, 1, 3))
	r.says(7, true)
	r.takes(rename("/d", "/e/d"), 1, 0)
	r.are(5,
		links(three, 4, 2),
		bit(three, 2, 0, 1),
		content(29, ent(4, "d"), 7, 5),
		points(three, 7, 0, 29, 4, 6, 7),
		size(three, 7, 64, 8),
		lost(5, 0, 1, 4, 9, 2, 1, 4, 7, 8, 9),
		links(three, 4, 1, 10),
	)
	r.want(list("/e/d"), api.Answer{Names: []string{"f"}})
	r.same("walked", r.walks("/e/d/f"), 5)
}

// 26.1: a rename onto a file: its name is turned, behind the link; at last it loses a name, behind that.
func TestRenameOntoFile(t *testing.T) {
	r := fresh(t, 9, house())
	r.takes(rename("/g", "/d/f"), 0, 0)
	r.are(1,
		links(three, 2, 2),
		turned(17, 0, 2, 4, 1),
		lost(5, 1, 1, 2, 2, 2),
		links(three, 2, 1, 3),
		links(three, 5, 0, 2),
		whole(three, 5, api.Inode{}),
	)
	r.says(3, true)
	r.same("frees", fmt.Sprint(r.v.Pending()), "6 1")
	r.done(sync())
	r.free(25, 5)
	r.bytes("/d/f", "")
	// One that is open, and one that has another name, are not dropped; what is about one that is dropped comes ahead.
	r = fresh(t, 9, house())
	r.open("/d/f", forRead, 0)
	r.takes(rename("/g", "/d/f"), 0, 0)
	r.are(5, links(three, 5, 0, 2))
	r.has("/h", "")
	next := r.next()
	r.done(link("/h", "/i"))
	r.takes(rename("/d/f", "/i"), 0, 0)
	r.is(next+2, links(three, 2, 2))
	r.is(next+3, turned(5, 2, 2, 1, next+2, 3))
	r.is(next+6, links(three, 3, 1, next+3))
	r.same("the next number", r.next(), next+7)
	about := r.v.About(3)
	next = r.next()
	r.takes(rename("/i", "/h"), 0, 0)
	p, _ := r.v.Graph().Get(next + 5)
	r.same("dropped behind", []any{p.Needs, len(about) > 1}, []any{about, true})
}

// 26.1: a rename onto an empty directory: its name is turned behind the link, and all patches by that directory.
func TestRenameOntoDir(t *testing.T) {
	r := fresh(t, 9, house())
	r.done(mkdir("/m"), mkdir("/d/e/x"), rmdir("/d/e/x"))
	by, about := r.v.By(7), r.v.About(7)
	ways := append(r.v.By(1), r.v.By(4)...)
	next := r.next()
	m := r.walks("/m")
	r.clears()
	r.takes(rename("/m", "/d/e"), 0, 0)
	r.are(next,
		links(three, m, 2),
		turned(17, 1, m, 4, append([]int{next}, by...)...),
		lost(5, 2, 1, m, append(append([]int{next + 1}, ways...), next+1)...),
		links(three, m, 1, next+2),
		links(three, 7, 0, next+1),
		whole(three, 7, api.Inode{}, about...),
	)
	r.same("by it", len(by) > 3, true)
	r.says(7, true)
	r.done(sync())
	r.free(23, 4)
}

// 26.1: a rename onto the same node is nothing, be it by the same path or another one.
func TestRenameSame(t *testing.T) {
	r := fresh(t, 9, house())
	r.done(link("/d/f", "/h"))
	r.leaves(func() {
		for _, o := range []api.Op{rename("/d/f", "/h"), rename("/h", "/d/f"), rename("/h", "/h"), rename("/d", "/d"), rename("/d/e", "/d/e")} {
			r.takes(o, 0, 0)
		}
	})
}

// 26.1: with FlagCut a file that has bytes is cut, and one that has none is let be.
func TestOpenCut(t *testing.T) {
	r := fresh(t, 9, house())
	r.costs(opening("/d/f", forWrite|cutting), 0, 0)
	r.open("/d/f", forWrite|cutting, 0)
	r.are(1, set(three, 5, 2, make([]byte, 16), 0))
	r.same("frees", fmt.Sprint(r.v.Pending()), "1 1")
	r.open("/d/f", forWrite|cutting, 1)
	r.open("/g", forRead|forWrite|create|cutting, 2)
	r.open("/d/f", forWrite, 3)
	r.open("/d/f", forWrite|create, 4)
	r.same("the next number", r.next(), 2)
	r.done(sync())
	r.free(25, 4)
	r.bytes("/d/f", "")
	// A hole alone is bytes, too.
	r.done(cut("/d/f", 9))
	next := r.next()
	r.open("/d/f", forWrite|cutting, 5)
	r.are(next, set(three, 5, 2, make([]byte, 16), 0))
}

// 26.1: layer 21's patches of what is written and cut, by the inode, about none.
func TestWriteCut(t *testing.T) {
	r := fresh(t, 9, house())
	r.open("/d/f", forWrite, 0)
	r.want(seek(0, 62), api.Answer{N: 62})
	r.costs(write(0, "abcd"), 0, 0)
	r.want(write(0, "abcd"), api.Answer{N: 4})
	raw := func(at, off int, data string) api.Patch {
		return api.Patch{At: at, Off: off, Data: []byte(data), Owner: 5}
	}
	r.are(1, raw(18, 62, "ab"), raw(19, 0, "cd"), size(three, 5, 66, 1, 2))
	r.want(seek(0, 190), api.Answer{N: 190})
	r.costs(write(0, "efgh"), 2, 0)
	r.want(write(0, "efgh"), api.Answer{N: 4})
	r.are(4,
		bit(three, 1, 0, 15), raw(20, 0, string(make([]byte, 62))+"ef"), points(three, 5, 2, 20, 0, 4, 5),
		bit(three, 1, 0, 31), raw(21, 0, "gh"+string(make([]byte, 62))), points(three, 5, 3, 21, 0, 7, 8),
		size(three, 5, 194, 6, 9),
	)
	_, e := r.v.Graph().Get(5)
	r.same("patch 5", e, api.OK)
	r.done(cut("/d/f", 300))
	r.are(11, size(three, 5, 300))
	r.done(cut("/d/f", 300))
	r.are(12, size(three, 5, 300))
	r.done(cut("/d/f", 66))
	x := bytesOf(api.Inode{Size: 66, Direct: [4]uint16{18, 19}})
	r.are(13, set(three, 5, 2, x[2:], 0), api.Patch{At: 19, Off: 2, Data: make([]byte, 62), Owner: 5, Needs: []int{13}})
	r.leaves(func() { r.want(write(0, ""), api.Answer{}) })
}
