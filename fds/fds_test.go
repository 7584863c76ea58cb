package fds_test

import (
	"math"
	"math/rand"
	"slices"
	"testing"

	"scupper/api"
	"scupper/fds"
)

// The document's number, written out, so that no shared slip of code and test hides.
const maxFds = 8

// none are places that no table has.
var none = []int{-1, -2, -maxFds, maxFds, maxFds + 1, 2 * maxFds, 1 << 32, math.MinInt, math.MaxInt}

// opened opens ino, and wants it to be OK.
func opened(t *testing.T, x *fds.Table, ino, mode int) int {
	t.Helper()
	fd, e := x.Open(ino, mode)
	if e != api.OK {
		t.Fatalf("Open(%d, %d): %v", ino, mode, e)
	}
	return fd
}

// full is a table with inodes 10, 11, .. in modes 1, 2, .. at its places.
func full(t *testing.T) *fds.Table {
	t.Helper()
	x := fds.New()
	for i := range maxFds {
		if fd := opened(t, x, 10+i, 1+i); fd != i {
			t.Fatalf("Open number %d: place %d", i, fd)
		}
	}
	return x
}

// wantFile wants just that file at fd.
func wantFile(t *testing.T, x *fds.Table, fd int, want fds.File) {
	t.Helper()
	if f, e := x.Get(fd); e != api.OK || f != want {
		t.Errorf("Get(%d): %v %v, want %v", fd, f, e, want)
	}
}

// wantFree wants Get, Seek and Close of fd to be refused, whatever the place in the file.
func wantFree(t *testing.T, x *fds.Table, fd int) {
	t.Helper()
	if f, e := x.Get(fd); e != api.ErrBadFd || f != (fds.File{}) {
		t.Errorf("Get(%d): %v %v", fd, f, e)
	}
	for _, pos := range []int{0, 5, -1, math.MinInt} {
		if e := x.Seek(fd, pos); e != api.ErrBadFd {
			t.Errorf("Seek(%d, %d): %v", fd, pos, e)
		}
	}
	if f, e := x.Close(fd); e != api.ErrBadFd || f != (fds.File{}) {
		t.Errorf("Close(%d): %v %v", fd, f, e)
	}
}

// wantUsed wants just these places not to be free.
func wantUsed(t *testing.T, x *fds.Table, want ...int) {
	t.Helper()
	if l := x.Used(); !slices.Equal(l, want) {
		t.Errorf("Used: %v, want %v", l, want)
	}
	if x.Full() != (len(want) == maxFds) {
		t.Errorf("Full: %v of %v", x.Full(), want)
	}
}

// 24.1: the chapter's example.
func TestExample(t *testing.T) {
	x := fds.New()
	if a, b := opened(t, x, 3, 1), opened(t, x, 4, 1); a != 0 || b != 1 {
		t.Errorf("Open: %d, %d", a, b)
	}
	if f, e := x.Close(0); e != api.OK || f != (fds.File{Ino: 3, Mode: 1}) {
		t.Errorf("Close(0): %v %v", f, e)
	}
	if c := opened(t, x, 5, 1); c != 0 {
		t.Errorf("Open: %d", c)
	}
}

// 24.1, 24.2: of a new table all places are free.
func TestNew(t *testing.T) {
	x := fds.New()
	for fd := range maxFds {
		wantFree(t, x, fd)
	}
	wantUsed(t, x)
	if n := x.Count(0); n != 0 {
		t.Errorf("Count(0): %d", n)
	}
	y := fds.New()
	opened(t, x, 1, 1)
	wantUsed(t, y)
}

// 24.1, 24.3: a table has eight places; a file more is refused, and nothing moves.
func TestFull(t *testing.T) {
	x := full(t)
	wantUsed(t, x, 0, 1, 2, 3, 4, 5, 6, 7)
	for range 3 {
		if fd, e := x.Open(99, 1); fd != 0 || e != api.ErrFiles {
			t.Errorf("Open: %d %v", fd, e)
		}
	}
	for i := range maxFds {
		wantFile(t, x, i, fds.File{Ino: 10 + i, Mode: 1 + i})
	}
	if n := x.Count(99); n != 0 {
		t.Errorf("Count(99): %d", n)
	}
}

// 24.1: a file is opened with any inode and mode, and both are told as they were given.
func TestOpenAny(t *testing.T) {
	for _, n := range []int{0, 1, 2, 3, 31, -1, 1 << 40, math.MinInt, math.MaxInt} {
		x := fds.New()
		if fd := opened(t, x, n, 7); fd != 0 {
			t.Errorf("Open(%d, 7): %d", n, fd)
		}
		if fd := opened(t, x, 7, n); fd != 1 {
			t.Errorf("Open(7, %d): %d", n, fd)
		}
		wantFile(t, x, 0, fds.File{Ino: n, Mode: 7})
		wantFile(t, x, 1, fds.File{Ino: 7, Mode: n})
		if n != 7 && (x.Count(n) != 1 || x.Count(7) != 1) {
			t.Errorf("Count of %d: %d, of 7: %d", n, x.Count(n), x.Count(7))
		}
	}
}

// 24.1: of any set of free places the first one is taken, in whichever order they were closed.
func TestFirstFree(t *testing.T) {
	for set := range 1 << maxFds {
		for _, back := range []bool{false, true} {
			x, free := full(t), []int{}
			for fd := range maxFds {
				if set>>fd&1 == 1 {
					free = append(free, fd)
				}
			}
			order := slices.Clone(free)
			if back {
				slices.Reverse(order)
			}
			for _, fd := range order {
				if f, e := x.Close(fd); e != api.OK || f != (fds.File{Ino: 10 + fd, Mode: 1 + fd}) {
					t.Fatalf("Close(%d): %v %v", fd, f, e)
				}
			}
			for _, fd := range free {
				if got := opened(t, x, 50, 9); got != fd {
					t.Fatalf("set %b: %d, want %d", set, got, fd)
				}
				wantFile(t, x, fd, fds.File{Ino: 50, Mode: 9})
			}
			if _, e := x.Open(50, 9); e != api.ErrFiles {
				t.Fatalf("set %b: %v", set, e)
			}
		}
	}
}

// 24.1: a file is at 0 when it is opened, though the one that was there ahead of it was further on.
func TestOpenedAtNought(t *testing.T) {
	x := full(t)
	for fd := range maxFds {
		if e := x.Seek(fd, 100+fd); e != api.OK {
			t.Fatal(e)
		}
	}
	for fd := range maxFds {
		if f, e := x.Close(fd); e != api.OK || f != (fds.File{Ino: 10 + fd, Pos: 100 + fd, Mode: 1 + fd}) {
			t.Errorf("Close(%d): %v %v", fd, f, e)
		}
		wantFree(t, x, fd)
		if got := opened(t, x, 10+fd, 1+fd); got != fd {
			t.Errorf("Open: %d, want %d", got, fd)
		}
		wantFile(t, x, fd, fds.File{Ino: 10 + fd, Mode: 1 + fd})
	}
}

// 24.1: Seek moves the file at that place alone, as far as one likes; below 0 it stays where it was.
func TestSeek(t *testing.T) {
	x := full(t)
	for fd := range maxFds {
		at := 0
		for _, pos := range []int{5, 48640, 0, 1 << 40, -1, 7, math.MinInt, math.MaxInt, -1} {
			want := api.OK
			if pos < 0 {
				want = api.ErrArg
			} else {
				at = pos
			}
			if e := x.Seek(fd, pos); e != want {
				t.Errorf("Seek(%d, %d): %v, want %v", fd, pos, e, want)
			}
			wantFile(t, x, fd, fds.File{Ino: 10 + fd, Pos: at, Mode: 1 + fd})
		}
		for later := fd + 1; later < maxFds; later++ {
			wantFile(t, x, later, fds.File{Ino: 10 + later, Mode: 1 + later})
		}
	}
}

// 24.1: the same inode at several places is in each one where it was brought there.
func TestSameInode(t *testing.T) {
	x := fds.New()
	for mode := range 4 {
		opened(t, x, 6, mode)
	}
	x.Seek(1, 11)
	x.Seek(3, 33)
	for fd, pos := range []int{0, 11, 0, 33} {
		wantFile(t, x, fd, fds.File{Ino: 6, Pos: pos, Mode: fd})
	}
	x.Close(1)
	for fd, pos := range map[int]int{0: 0, 2: 0, 3: 33} {
		wantFile(t, x, fd, fds.File{Ino: 6, Pos: pos, Mode: fd})
	}
	if n := x.Count(6); n != 3 {
		t.Errorf("Count: %d", n)
	}
}

// 24.1: places that there are not, and free ones beside others, are ErrBadFd, ahead of ErrArg; nothing changes.
func TestBadPlaces(t *testing.T) {
	x := full(t)
	x.Close(0)
	x.Close(4)
	x.Close(7)
	for _, fd := range append([]int{0, 4, 7}, none...) {
		wantFree(t, x, fd)
	}
	wantUsed(t, x, 1, 2, 3, 5, 6)
	for _, fd := range x.Used() {
		wantFile(t, x, fd, fds.File{Ino: 10 + fd, Mode: 1 + fd})
	}
	empty := fds.New()
	for _, fd := range none {
		wantFree(t, empty, fd)
	}
}

// 24.2: how many places have an inode, from none to all, and none of those that were closed.
func TestCount(t *testing.T) {
	x := fds.New()
	for i := range maxFds {
		if n := x.Count(3); n != i/2 {
			t.Errorf("%d open: Count(3): %d", i, n)
		}
		opened(t, x, 2+i%2, 0)
	}
	for fd := range maxFds {
		if a, b, c := x.Count(2), x.Count(3), x.Count(4); a != (maxFds-fd)/2 || b != (maxFds-fd+1)/2 || c != 0 {
			t.Errorf("%d closed: %d, %d, %d", fd, a, b, c)
		}
		x.Close(fd)
	}
	y := fds.New()
	for range maxFds {
		opened(t, y, 1, 0)
	}
	if y.Count(1) != maxFds || y.Count(0) != 0 || y.Count(-1) != 0 {
		t.Errorf("Count: %d, %d, %d", y.Count(1), y.Count(0), y.Count(-1))
	}
}

// 24.2: what is used is told rising, for each set of places, and the table is full with all alone.
func TestUsed(t *testing.T) {
	for set := range 1 << maxFds {
		x, want := full(t), []int{}
		for fd := maxFds - 1; fd >= 0; fd-- {
			if set>>fd&1 == 0 {
				x.Close(fd)
			}
		}
		for fd := range maxFds {
			if set>>fd&1 == 1 {
				want = append(want, fd)
			}
		}
		wantUsed(t, x, want...)
	}
}

// Rule 4: what is told is the caller's own: changed, it changes nothing.
func TestOwn(t *testing.T) {
	x := full(t)
	l := x.Used()
	for i := range l {
		l[i] = 99
	}
	_ = append(l[:2], 98)
	wantUsed(t, x, 0, 1, 2, 3, 4, 5, 6, 7)
	f, _ := x.Get(2)
	f.Pos, f.Ino = 5, 6
	wantFile(t, x, 2, fds.File{Ino: 12, Mode: 3})
	g, _ := x.Close(2)
	opened(t, x, 40, 4)
	x.Seek(2, 9)
	if g != (fds.File{Ino: 12, Mode: 3}) {
		t.Errorf("closed: %v", g)
	}
}

// 24.2: a copy has the same, and is a table of its own: neither sees what is done to the other.
func TestCopy(t *testing.T) {
	x := full(t)
	x.Close(1)
	x.Close(5)
	x.Seek(3, 30)
	y := x.Copy()
	if x == y {
		t.Fatal("a copy is the table itself")
	}
	for _, z := range []*fds.Table{x, y} {
		wantUsed(t, z, 0, 2, 3, 4, 6, 7)
		wantFile(t, z, 3, fds.File{Ino: 13, Pos: 30, Mode: 4})
		wantFile(t, z, 7, fds.File{Ino: 17, Mode: 8})
	}
	for _, z := range [][2]*fds.Table{{x, y}, {y.Copy(), y}, {y, x.Copy()}} {
		change, stay := z[0], z[1]
		was := [maxFds]fds.File{}
		used := stay.Used()
		for _, fd := range used {
			was[fd], _ = stay.Get(fd)
		}
		for _, fd := range change.Used() {
			change.Seek(fd, 1000+fd)
		}
		change.Close(0)
		opened(t, change, 70, 7)
		opened(t, change, 71, 7)
		wantUsed(t, stay, used...)
		for _, fd := range used {
			wantFile(t, stay, fd, was[fd])
		}
	}
	wantUsed(t, fds.New().Copy())
}

// 24.1, 24.2, rule 2: of a table that is none all is ErrNil, or nothing, ahead of all other errors.
func TestNone(t *testing.T) {
	var x *fds.Table
	if fd, e := x.Open(1, 1); fd != 0 || e != api.ErrNil {
		t.Errorf("Open: %d %v", fd, e)
	}
	for _, fd := range append([]int{0, 1, 7}, none...) {
		if f, e := x.Get(fd); f != (fds.File{}) || e != api.ErrNil {
			t.Errorf("Get(%d): %v %v", fd, f, e)
		}
		if f, e := x.Close(fd); f != (fds.File{}) || e != api.ErrNil {
			t.Errorf("Close(%d): %v %v", fd, f, e)
		}
		for _, pos := range []int{0, 1, -1} {
			if e := x.Seek(fd, pos); e != api.ErrNil {
				t.Errorf("Seek(%d, %d): %v", fd, pos, e)
			}
		}
	}
	if x.Count(0) != 0 || x.Count(1) != 0 || x.Full() || len(x.Used()) != 0 || x.Copy() != nil {
		t.Errorf("Count %d %d, Full %v, Used %v, Copy %v", x.Count(0), x.Count(1), x.Full(), x.Used(), x.Copy())
	}
}

// model is the chapter's words: the files by their places, those that are free left out.
type model map[int]fds.File

func (m model) open(ino, mode int) (int, api.Errno) {
	for fd := 0; fd < maxFds; fd++ {
		if _, ok := m[fd]; !ok {
			m[fd] = fds.File{Ino: ino, Mode: mode}
			return fd, api.OK
		}
	}
	return 0, api.ErrFiles
}

func (m model) get(fd int) (fds.File, api.Errno) {
	if f, ok := m[fd]; ok {
		return f, api.OK
	}
	return fds.File{}, api.ErrBadFd
}

func (m model) seek(fd, pos int) api.Errno {
	f, e := m.get(fd)
	if e == api.OK && pos < 0 {
		e = api.ErrArg
	}
	if e == api.OK {
		f.Pos = pos
		m[fd] = f
	}
	return e
}

func (m model) close(fd int) (fds.File, api.Errno) {
	f, e := m.get(fd)
	delete(m, fd)
	return f, e
}

// like wants the table to be the model's, place by place.
func like(t *testing.T, x *fds.Table, m model) {
	t.Helper()
	used, count := []int{}, map[int]int{}
	for fd := -2; fd < maxFds+2; fd++ {
		f, e := x.Get(fd)
		g, h := m.get(fd)
		if f != g || e != h {
			t.Fatalf("Get(%d): %v %v, want %v %v", fd, f, e, g, h)
		}
		if h == api.OK {
			used = append(used, fd)
			count[g.Ino]++
		}
	}
	if l := x.Used(); !slices.Equal(l, used) {
		t.Fatalf("Used: %v, want %v", l, used)
	}
	if x.Full() != (len(used) == maxFds) {
		t.Fatalf("Full: %v of %v", x.Full(), used)
	}
	for ino := -1; ino < 6; ino++ {
		if n := x.Count(ino); n != count[ino] {
			t.Fatalf("Count(%d): %d, want %d", ino, n, count[ino])
		}
	}
}

// step does one drawn thing to both, and wants the same answers.
func step(t *testing.T, r *rand.Rand, x *fds.Table, m model, open int) {
	t.Helper()
	fd, ino, mode, pos := r.Intn(maxFds+2)-1, r.Intn(5), r.Intn(32), r.Intn(60)-10
	switch n := r.Intn(10); {
	case n < open:
		a, e := x.Open(ino, mode)
		if b, g := m.open(ino, mode); a != b || e != g {
			t.Fatalf("Open: %d %v, want %d %v", a, e, b, g)
		}
	case n < 8:
		a, e := x.Close(fd)
		if b, g := m.close(fd); a != b || e != g {
			t.Fatalf("Close(%d): %v %v, want %v %v", fd, a, e, b, g)
		}
	default:
		e := x.Seek(fd, pos)
		if g := m.seek(fd, pos); e != g {
			t.Fatalf("Seek(%d, %d): %v, want %v", fd, pos, e, g)
		}
	}
}

// 24.1, 24.2, 24.3: long runs, some that open more and some that close more, held against the chapter's words; and copies on the way.
func TestDice(t *testing.T) {
	for seed := range 200 {
		r := rand.New(rand.NewSource(int64(seed)))
		x, m := fds.New(), model{}
		old, oldm := x.Copy(), model{}
		for i := range 300 {
			step(t, r, x, m, 2+seed%5)
			like(t, x, m)
			if i%50 == 25 {
				like(t, old, oldm)
				old, oldm = x.Copy(), model{}
				for fd, f := range m {
					oldm[fd] = f
				}
				if r.Intn(2) == 0 {
					x, old = old, x
				}
			}
		}
	}
}

// 24.3: as long as a place is not closed, it has the file that was opened there, whatever else is done.
func TestStays(t *testing.T) {
	for seed := range 100 {
		r := rand.New(rand.NewSource(int64(1000 + seed)))
		x, has := fds.New(), map[int]fds.File{}
		for i := range 400 {
			switch r.Intn(3) {
			case 0:
				if fd, e := x.Open(i, i%7); e == api.OK {
					if _, ok := has[fd]; ok {
						t.Fatalf("place %d is taken twice", fd)
					}
					has[fd] = fds.File{Ino: i, Mode: i % 7}
				} else if len(has) < maxFds {
					t.Fatalf("Open: %v of %d", e, len(has))
				}
			case 1:
				fd := r.Intn(maxFds)
				if _, e := x.Close(fd); e == api.OK {
					delete(has, fd)
				}
			case 2:
				x.Seek(r.Intn(maxFds), r.Intn(99)-9)
			}
			for fd, f := range has {
				g, e := x.Get(fd)
				if e != api.OK || g.Ino != f.Ino || g.Mode != f.Mode {
					t.Fatalf("place %d: %v %v, opened as %v", fd, g, e, f)
				}
			}
		}
	}
}
