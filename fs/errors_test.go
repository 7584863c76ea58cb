package fs_test

import (
	"fmt"
	"math"
	"strings"
	"testing"

	"scupper/api"
)

// crowd is a disk on which nothing is free, and in whose directories /, /d and /k is no room: /d (inode 4) has f (5, a file of 200 links), e (6, a directory without names), n (8, a directory with the file x, 9) and z (5); / has g (2) and h (3), files with bytes, and /k (7), a directory without names.
func crowd() *image {
	m := blank(three)
	m.dir(1, names(ent(4, "d"), ent(2, "g"), ent(3, "h"), ent(7, "k")))
	m.dir(4, names(ent(5, "f"), ent(6, "e"), ent(8, "n"), ent(5, "z")))
	m.dir(8, names(ent(9, "x"), ent(2, "y"), ent(2, "yy"), ent(2, "yyy")))
	m.dir(6)
	m.dir(7)
	m.set(2, api.Inode{Kind: isFile, Links: 4, Size: 9, Direct: [4]uint16{uint16(m.take(0))}})
	m.set(3, api.Inode{Kind: isFile, Links: 1, Size: 128, Direct: [4]uint16{0, uint16(m.take(0))}})
	m.set(5, api.Inode{Kind: isFile, Links: maxLinks})
	m.set(9, api.Inode{Kind: isFile, Links: 1})
	return m.fill(0, 0).fillInodes()
}

// wrongPaths is texts that are no path, or one of too many names, with what is told of them.
func wrongPaths() map[string]api.Errno {
	l := map[string]api.Errno{many(maxDepth + 1): api.ErrLong, many(40): api.ErrLong, many(maxDepth) + "/": api.ErrName, many(40) + "//x": api.ErrName}
	for _, p := range []string{"", "a", "/a/", "//", "//a", "/.", "/..", "/a/../b", "/a b", "/\x00", "/eleven.long", "/\xff", "/ä", strings.Repeat("/", 99)} {
		l[p] = api.ErrName
	}
	return l
}

// lostPaths is paths of which a name but the last one is not there, or is no directory.
func lostPaths() map[string]api.Errno {
	return map[string]api.Errno{
		"/q/x": api.ErrNoEnt, "/d/q/x": api.ErrNoEnt, "/k/q/x": api.ErrNoEnt, "/d/e/q/x": api.ErrNoEnt,
		"/g/x": api.ErrNotDir, "/d/f/x": api.ErrNotDir, "/d/f/x/y": api.ErrNotDir, "/h/q/x": api.ErrNotDir, many(maxDepth): api.ErrNoEnt,
	}
}

// with is an op with other arguments, such as would be wrong further behind.
func with(o api.Op, p string) api.Op { o.Path = p; return o }

func withTo(o api.Op, p string) api.Op { o.To = p; return o }

// refuses wants these errors, and nothing done.
func (r *rig) refuses(want api.Errno, ops ...api.Op) {
	r.t.Helper()
	for _, o := range ops {
		r.refused(o, want)
	}
}

// onPaths wants of an op with each path that is wrong, or leads nowhere, what is told of it.
func (r *rig) onPaths(o api.Op) {
	r.t.Helper()
	for p, e := range wrongPaths() {
		r.refused(with(o, p), e)
	}
	for p, e := range lostPaths() {
		r.refused(with(o, p), e)
	}
}

// 26.1, P1, P2: OpOpen, where nothing is free: each error of layer 25's table ahead of those behind it, ErrSpace behind all.
func TestOpenErrors(t *testing.T) {
	for _, full := range []bool{false, true} {
		r := fresh(t, 9, crowd())
		if full {
			for fd := range maxFds {
				r.open("/g", forRead, fd)
			}
		}
		for _, flags := range []int{math.MinInt, -1, 0, create, only, cutting, create | only, forRead | only, forRead | cutting, forRead | create | cutting, 32, 33, 64 | 7, math.MaxInt} {
			r.refuses(api.ErrArg, opening("/q", flags), opening("/d", flags), opening("", flags), opening("/", flags), opening("/g/x", flags))
		}
		for _, flags := range []int{forRead, forWrite, 3, forRead | create, forWrite | cutting, 7 | only, 31} {
			r.onPaths(opening("", flags))
			r.refuses(api.ErrIsDir, opening("/", flags))
			if flags&only == 0 {
				r.refuses(api.ErrIsDir, opening("/d", flags), opening("/d/e", flags), opening("/k", flags))
			} else {
				r.refuses(api.ErrExist, opening("/d", flags), opening("/g", flags), opening("/d/f", flags))
			}
			last := api.ErrSpace
			if full {
				last = api.ErrFiles
			}
			if flags&create == 0 {
				last = api.ErrNoEnt
			}
			r.refuses(last, opening("/q", flags), opening("/k/q", flags), opening("/d/e/q", flags))
		}
		if full {
			r.refuses(api.ErrFiles, opening("/g", forRead), opening("/g", 7), opening("/g", forWrite|cutting))
		}
	}
}

// 26.1: what has a place of the table: it is free, or there is none; it was not opened for that; numbers that may not be.
func TestPlaceErrors(t *testing.T) {
	r := fresh(t, 9, crowd())
	r.open("/g", forRead, 0)
	r.open("/g", forWrite, 1)
	r.open("/h", 3, 2)
	r.open("/h", 3, 3)
	r.done(closing(2))
	much := string(make([]byte, maxBytes+1))
	for _, fd := range []int{math.MinInt, -1, 2, 4, 7, 8, math.MaxInt} {
		r.refuses(api.ErrBadFd, closing(fd), fsync(fd))
		for _, n := range []int{math.MinInt, -1, 0, 1, maxSize + 1, math.MaxInt} {
			r.refuses(api.ErrBadFd, read(fd, n), seek(fd, n))
		}
		r.refuses(api.ErrBadFd, write(fd, ""), write(fd, "a"), write(fd, much))
	}
	for _, n := range []int{math.MinInt, -1, 0, 1, maxBytes + 1, math.MaxInt} {
		r.refuses(api.ErrMode, read(1, n))
	}
	r.refuses(api.ErrMode, write(0, ""), write(0, "a"), write(0, much))
	for _, n := range []int{math.MinInt, -1, maxBytes + 1, math.MaxInt} {
		r.refuses(api.ErrArg, read(0, n), read(3, n))
	}
	for _, n := range []int{math.MinInt, -1, maxSize + 1, math.MaxInt} {
		r.refuses(api.ErrArg, seek(0, n), seek(1, n), seek(3, n))
	}
	// Bytes that would end beyond what a file can have, and for which there is no space.
	r.refuses(api.ErrArg, write(3, much))
	for off, n := range map[int]int{maxSize: 1, maxSize - 1: 2, maxSize - maxBytes + 1: maxBytes} {
		r.want(seek(3, off), api.Answer{N: off})
		r.refuses(api.ErrBig, write(3, text(n)))
		if n > 1 {
			r.refuses(api.ErrSpace, write(3, text(n-1)))
		}
	}
}

// 26.1: OpCut, OpStat and OpList.
func TestWalkedErrors(t *testing.T) {
	r := fresh(t, 9, crowd())
	for _, n := range []int{math.MinInt, -1, 0, 5, maxSize, maxSize + 1, math.MaxInt} {
		r.onPaths(cut("", n))
		r.refuses(api.ErrNoEnt, cut("/q", n), cut("/k/q", n))
		r.refuses(api.ErrIsDir, cut("/", n), cut("/d", n), cut("/d/e", n))
		if n < 0 {
			r.refuses(api.ErrArg, cut("/g", n), cut("/d/f", n))
		} else if n > maxSize {
			r.refuses(api.ErrBig, cut("/g", n), cut("/d/f", n))
		}
	}
	for _, o := range []api.Op{stat(""), list("")} {
		r.onPaths(o)
		r.refuses(api.ErrNoEnt, with(o, "/q"), with(o, "/k/q"), with(o, "/d/e/q"))
	}
	r.refuses(api.ErrNotDir, list("/g"), list("/d/f"), list("/d/n/x"))
}

// 26.1: OpMkdir, OpRmdir and OpUnlink.
func TestNameErrors(t *testing.T) {
	r := fresh(t, 9, crowd())
	for _, o := range []api.Op{mkdir(""), rmdir(""), unlink("")} {
		r.onPaths(o)
	}
	r.refuses(api.ErrExist, mkdir("/"), mkdir("/d"), mkdir("/g"), mkdir("/d/f"), mkdir("/d/e"))
	r.refuses(api.ErrSpace, mkdir("/q"), mkdir("/d/q"), mkdir("/k/q"))
	r.refuses(api.ErrBusy, rmdir("/"))
	r.refuses(api.ErrNoEnt, rmdir("/q"), rmdir("/d/q"), unlink("/q"), unlink("/d/e/q"))
	r.refuses(api.ErrNotDir, rmdir("/g"), rmdir("/d/f"))
	r.refuses(api.ErrNotEmpty, rmdir("/d"), rmdir("/d/n"))
	r.refuses(api.ErrIsDir, unlink("/"), unlink("/d"), unlink("/d/e"))
}

// 26.1: OpLink.
func TestLinkErrors(t *testing.T) {
	r := fresh(t, 9, crowd())
	for _, to := range []string{"", "/", "/d", "/q", "/q/q", many(17), "/g"} {
		r.onPaths(link("", to))
		r.refuses(api.ErrNoEnt, link("/q", to), link("/k/q", to))
		r.refuses(api.ErrIsDir, link("/", to), link("/d", to), link("/d/e", to))
	}
	for _, p := range []string{"/g", "/d/f"} {
		for to, e := range wrongPaths() {
			r.refused(link(p, to), e)
		}
		for to, e := range lostPaths() {
			r.refused(link(p, to), e)
		}
		r.refuses(api.ErrExist, link(p, "/"), link(p, "/d"), link(p, "/g"), link(p, p), link(p, "/d/e"))
	}
	r.refuses(api.ErrLinks, link("/d/f", "/q"), link("/d/z", "/k/q"))
	r.refuses(api.ErrSpace, link("/g", "/q"), link("/h", "/k/q"))
	r.costs(link("/h", "/k/q"), 1, 0)
}

// 26.1: OpRename.
func TestRenameErrors(t *testing.T) {
	r := fresh(t, 9, crowd())
	for to := range wrongPaths() {
		for p, e := range wrongPaths() {
			r.refused(rename(p, to), e)
		}
	}
	for _, p := range []string{"/", "/q", "/q/q", "/g/x", "/d", "/g", "/d/f"} {
		for to, e := range wrongPaths() {
			r.refused(rename(p, to), e)
		}
		r.refuses(api.ErrBusy, rename(p, "/"), rename("/", p))
	}
	for p, e := range lostPaths() {
		for _, to := range []string{"/q", "/q/q", "/g/x", "/d", p, p + "/x"} {
			if p != many(maxDepth) {
				r.refused(rename(p, to), e)
			}
		}
	}
	r.refuses(api.ErrNoEnt, rename("/q", "/q"), rename("/q", "/q/x"), rename("/q", "/g/x"), rename("/d/q", "/q/x"), rename("/d/q", "/d"))
	r.refuses(api.ErrInside, rename("/d", "/d/x"), rename("/d", "/d/f/x"), rename("/d", "/d/q/x"), rename("/d/e", "/d/e/x"), rename("/d", "/d/e"))
	r.refuses(api.ErrNotDir, rename("/g", "/g/x"), rename("/d/f", "/d/f/x"), rename("/d/f", "/d/f/x/y"))
	for _, p := range []string{"/d", "/g", "/d/f", "/k"} {
		r.refuses(api.ErrNoEnt, rename(p, "/q/x"), rename(p, "/q/x/y"))
		r.refuses(api.ErrNotDir, rename(p, "/h/x"), rename(p, "/h/x/y"), rename(p, "/h/q/y"))
	}
	r.refuses(api.ErrNotDir, rename("/d", "/g"), rename("/k", "/d/f"), rename("/d/e", "/d/z"))
	r.refuses(api.ErrIsDir, rename("/g", "/d"), rename("/g", "/k"), rename("/d/f", "/d/e"), rename("/d/f", "/d/n"))
	r.refuses(api.ErrNotEmpty, rename("/k", "/d"), rename("/k", "/d/n"), rename("/d/e", "/d/n"), rename("/d/n", "/d"))
	r.refuses(api.ErrLinks, rename("/d/f", "/q"), rename("/d/f", "/g"), rename("/d/z", "/h"), rename("/d/f", "/k/q"))
	r.refuses(api.ErrSpace, rename("/g", "/q"), rename("/d/e", "/k/q"), rename("/d", "/k/d"), rename("/d/n", "/q"))
	// The same node is nothing, however many links it has; and onto what is there nothing is taken.
	r.leaves(func() { r.done(rename("/d/f", "/d/z"), rename("/d/z", "/d/z")) })
	r.done(rename("/g", "/h"), rename("/k", "/d/e"))
	r.want(list("/"), api.Answer{Names: []string{"d", "h"}})
}

// 26.1, 26.2: a kind that there is not.
func TestNoKind(t *testing.T) {
	r := fresh(t, 9, crowd())
	for _, kind := range []int{math.MinInt, -1, 0, 16, 17, math.MaxInt} {
		r.refused(api.Op{Kind: kind, Path: "/g", To: "/q", Flags: forRead}, api.ErrArg)
	}
}

// 26.1: where nothing is free all is done that takes nothing, as layer 25 says.
func TestFull(t *testing.T) {
	r := fresh(t, 9, crowd())
	r.open("/h", 3, 0)
	r.want(seek(0, 60), api.Answer{N: 60})
	r.refused(write(0, "abcdef"), api.ErrSpace) // its first block is a hole
	r.want(seek(0, 66), api.Answer{N: 66})
	r.takes(write(0, "abc"), 0, 0)
	r.want(seek(0, 64), api.Answer{N: 64})
	r.want(read(0, 6), api.Answer{Data: []byte("\x00\x00abc\x00")})
	r.takes(cut("/h", 1000), 0, 0)
	r.want(stat("/h"), api.Answer{Stat: api.Stat{Kind: isFile, Size: 1000, Links: 1}})
	r.want(stat("/d"), api.Answer{Stat: api.Stat{Kind: isDir, Links: 1}})
	r.takes(fsync(0), 0, 0)
	r.takes(unlink("/g"), 0, 0)
	r.takes(link("/h", "/x"), 0, 0)
	r.want(list("/"), api.Answer{Names: []string{"d", "h", "k", "x"}})
	r.refused(mkdir("/y"), api.ErrSpace)
	r.takes(rmdir("/k"), 0, 0)
	r.costs(mkdir("/y"), 0, 1)
	r.refused(mkdir("/y"), api.ErrSpace) // the inode comes back when that settles
	r.done(sync())
	r.free(0, 1)
	r.takes(mkdir("/y"), 0, 1)
	r.refused(mkdir("/y/z"), api.ErrSpace)
	r.takes(rename("/h", "/d/z"), 0, 0)
	r.want(stat("/d/z"), api.Answer{Stat: api.Stat{Kind: isFile, Size: 1000, Links: 2}})
	r.same("what z was", r.inode(5).Links, maxLinks-1)
	r.same("told", fmt.Sprint(r.walks("/d/z"), r.walks("/x")), "3 3")
}
