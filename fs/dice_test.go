package fs_test

import (
	"fmt"
	"math/rand"
	"slices"
	"strings"
	"testing"

	"scupper/alloc"
	"scupper/api"
	"scupper/dir"
	"scupper/file"
	"scupper/tree"
)

// throwPath is a path of few names, mostly short, at times wrong.
func throwPath(d *rand.Rand) string {
	switch d.Intn(60) {
	case 0:
		return "/"
	case 1:
		return "a"
	case 2:
		return "/a/"
	case 3:
		return strings.Repeat("/a", maxDepth+d.Intn(2))
	}
	p := ""
	for range 1 + d.Intn(1+d.Intn(4)) {
		p += "/" + string("abcdef"[d.Intn(2+d.Intn(5))])
	}
	return p
}

// throw is anything that can be asked.
func throw(d *rand.Rand) api.Op {
	o := api.Op{Kind: 1 + d.Intn(15), Path: throwPath(d), To: throwPath(d), Fd: d.Intn(5), N: d.Intn(400), Off: d.Intn(600), Flags: d.Intn(8)}
	if d.Intn(10) == 0 {
		o.Off = d.Intn(maxSize)
	}
	switch d.Intn(12) {
	case 0:
		o.Fd = d.Intn(14) - 3
	case 1:
		o.N = []int{-1, maxBytes, maxBytes + 1, maxSize, maxSize + 1}[d.Intn(5)]
	case 2:
		o.Off = []int{-1, maxSize - 2, maxSize, maxSize + 1}[d.Intn(4)]
	case 3:
		o.Flags = d.Intn(40) - 2
	case 4:
		o.Kind = d.Intn(20) - 2
	case 5, 6:
		o.Kind = api.OpOpen
		o.Flags |= create
	case 7:
		o.Kind = api.OpWrite
	}
	if (o.Kind == api.OpSync || o.Kind == api.OpFsync) && d.Intn(2) == 0 {
		o.Kind = api.OpMkdir
	}
	o.Data = make([]byte, d.Intn(1+d.Intn(300)))
	if d.Intn(60) == 0 {
		o.Data = make([]byte, maxBytes-1+d.Intn(3))
	}
	for i := range o.Data {
		o.Data[i] = byte(d.Intn(256))
	}
	return o
}

// twin is a file system and the tree that it should be.
type twin struct {
	*rig
	x *tree.Tree
}

func newTwin(t *testing.T, size int, m *image) *twin {
	return &twin{rig: fresh(t, size, m), x: tree.New()}
}

// step does an op, and holds the answer against the tree's, and what is taken against what Cost said. The tree goes on where the file system does.
func (w *twin) step(o api.Op) api.Errno {
	w.t.Helper()
	given := slices.Clone(o.Data)
	sectors, inodes := w.f.Cost(o)
	n, i := alloc.Avail(w.v)
	was, next, opened := w.graph(), w.next(), w.opened()
	words := fmt.Sprint(w.w.Says())
	then := w.x.Copy()
	want := then.Do(o)
	a := w.f.Do(o)
	m, j := alloc.Avail(w.v)
	if !slices.Equal(given, o.Data) {
		w.t.Fatalf("%s: what was handed in is changed", short(o))
	}
	const told = "%s: %+v (Cost %d %d, free %d %d), want %+v"
	switch {
	case a.Err == api.ErrSpace:
		if want.Err != api.OK || sectors <= n && inodes <= i || !alike(a, api.Answer{Err: api.ErrSpace}) {
			w.t.Fatalf(told, short(o), a, sectors, inodes, n, i, want)
		}
	case !alike(a, want):
		w.t.Fatalf(told, short(o), a, sectors, inodes, n, i, want)
	case a.Err != api.OK && (sectors != 0 || inodes != 0):
		w.t.Fatalf(told, short(o), a, sectors, inodes, n, i, want)
	case a.Err == api.OK && (sectors > n || inodes > i):
		w.t.Fatalf(told, short(o), a, sectors, inodes, n, i, want)
	case a.Err == api.OK && o.Kind != api.OpSync && o.Kind != api.OpFsync && (m != n-sectors || j != i-inodes):
		w.t.Fatalf(told+": %d %d are left", short(o), a, sectors, inodes, n, i, want, m, j)
	}
	if a.Err == api.OK {
		w.x = then
		return a.Err
	}
	if w.graph() != was || w.next() != next || w.opened() != opened || fmt.Sprint(w.w.Says()) != words {
		w.t.Fatalf("%s: %v, and something is changed", short(o), a.Err)
	}
	return a.Err
}

// hold holds all nodes of the tree against the inodes, what is open, and what is above.
func (w *twin) hold() {
	w.t.Helper()
	inos := map[int]int{1: 1} // by nodes
	above := map[int][]int{}  // of a node: all directories on a way to it
	var down func(id int, way []int)
	down = func(id int, way []int) {
		n, _ := w.x.Node(id)
		x := w.inode(inos[id])
		if int(x.Kind) != n.Kind || int(x.Links) != n.Links {
			w.t.Fatalf("node %d, inode %d: %+v, want kind %d, %d links", id, inos[id], x, n.Kind, n.Links)
		}
		above[id] = append(above[id], way...)
		if n.Kind == isFile {
			w.holdBytes(inos[id], n.Data)
			return
		}
		l, e := dir.List(w.v, inos[id])
		slices.SortFunc(l, func(a, b api.Entry) int { return strings.Compare(a.Name, b.Name) })
		if e != api.OK || len(l) != len(n.Names) {
			w.t.Fatalf("node %d, inode %d: %v %v, want %v", id, inos[id], l, e, n.Names)
		}
		for i, entry := range n.Names {
			if was, is := inos[entry.Ino]; l[i].Name != entry.Name || is && was != l[i].Ino {
				w.t.Fatalf("node %d, inode %d: %v, want %v of %v", id, inos[id], l, n.Names, inos)
			}
			inos[entry.Ino] = l[i].Ino
			down(entry.Ino, append(slices.Clone(way), inos[id]))
		}
	}
	down(1, nil)
	for id, l := range above {
		slices.Sort(l)
		w.same(fmt.Sprint("Above of ", inos[id]), w.f.Above(inos[id]), slices.Compact(l))
	}
	for _, p := range w.x.Paths() {
		ino, e := w.f.Walk(p.Path)
		w.same("Walk of "+p.Path, []any{ino, e}, []any{inos[p.Id], api.OK})
	}
	mine, theirs := w.f.Open(), w.x.Open()
	for fd := range maxFds {
		a, e := mine.Get(fd)
		b, e2 := theirs.Get(fd)
		if is := inos[b.Ino]; is == 0 && e2 == api.OK {
			inos[b.Ino] = a.Ino
			n, _ := w.x.Node(b.Ino)
			w.holdBytes(a.Ino, n.Data)
			w.same("links of what is open", w.inode(a.Ino).Links, 0)
		}
		b.Ino = inos[b.Ino]
		w.same(fmt.Sprint("place ", fd), []any{a, e}, []any{b, e2})
	}
	if w.t.Failed() {
		w.t.FailNow()
	}
}

// holdBytes holds a file's bytes against what they should be.
func (w *twin) holdBytes(ino int, want []byte) {
	w.t.Helper()
	w.same("the size", w.inode(ino).Size, len(want))
	for off := 0; off <= len(want); off += maxBytes {
		part, e := file.Read(w.v, ino, off, maxBytes)
		if e != api.OK || string(part) != string(want[off:min(len(want), off+maxBytes)]) {
			w.t.Fatalf("the bytes of %d from %d on are wrong, or %v", ino, off, e)
		}
	}
}

// clear takes all that there is, and holds what is free then against what was from the beginning on.
func (w *twin) clear(sectors, inodes int) {
	w.t.Helper()
	for fd := range maxFds {
		w.step(closing(fd))
	}
	for _, p := range slices.Backward(w.x.Paths()) {
		w.step(unlink(p.Path))
		w.step(rmdir(p.Path))
	}
	for len(w.x.Paths()) > 1 { // such as were too far down for a path of theirs came nearer
		l := w.x.Paths()
		w.step(rename(l[len(l)-1].Path, "/z"))
		for _, p := range slices.Backward(w.x.Paths()) {
			w.step(unlink(p.Path))
			w.step(rmdir(p.Path))
		}
	}
	w.done(sync())
	w.hold()
	x := w.inode(1)
	held := 0
	for _, to := range x.Direct {
		if to != 0 {
			held++
		}
	}
	w.free(sectors-held, inodes)
	w.says(0, true)
}

// 26.1 to 26.4, P2: long runs on disks of several shapes, with caches of any size, held against the tree, answer by answer; ErrSpace is told where Cost is more than is free, and alone there. At the end what was taken comes back.
func TestDice(t *testing.T) {
	shapes := []api.Geom{three, one, least, great, {Groups: 8, Inodes: 1, Data: 4}, {Groups: 2, Inodes: 2, Data: 30}}
	full, taken := 0, 0
	for seed := range int64(48) {
		d := rand.New(rand.NewSource(seed))
		g := shapes[int(seed)%len(shapes)]
		w := newTwin(t, 1+d.Intn(40), blank(g))
		sectors, inodes := alloc.Avail(w.v)
		for range 250 {
			if w.step(throw(d)) == api.ErrSpace {
				full++
			}
			n, _ := alloc.Avail(w.v)
			if n < sectors/4 {
				taken++
				w.step(unlink(throwPath(d)))
			}
			if d.Intn(10) == 0 {
				w.hold()
			}
		}
		w.hold()
		w.clear(sectors, inodes)
		if t.Failed() {
			t.Fatal("seed ", seed, ", shape ", g)
		}
	}
	if full < 100 || taken < 100 {
		t.Error("there was mostly space: ", full, taken)
	}
}

// same answers as the tree, but for what the power keeps from being done.
func (w *twin) dim(o api.Op) {
	w.t.Helper()
	was, next, opened := w.graph(), w.next(), w.opened()
	then := w.x.Copy()
	want := then.Do(o)
	a := w.f.Do(o)
	switch {
	case a.Err == api.ErrDown || a.Err == api.ErrSpace:
		// What settles goes as far as the power lasts; of all else nothing is left.
		if o.Kind != api.OpSync && o.Kind != api.OpFsync && (w.graph() != was || w.next() != next) || w.opened() != opened {
			w.t.Fatalf("%s: %v, and something is changed", short(o), a.Err)
		}
		if !alike(a, api.Answer{Err: a.Err}) {
			w.t.Fatalf("%s: %+v", short(o), a)
		}
	case !alike(a, want):
		w.t.Fatalf("%s: %+v, want %+v", short(o), a, want)
	case a.Err == api.OK:
		w.x = then
	}
}

// 26.1, 26.3, P2: the same run with the power gone at each unit once: what is told then is ErrDown, or what the tree tells, and nothing is left of what was refused; when the power is back all goes on.
func TestDicePower(t *testing.T) {
	gone := 0
	for seed := range int64(6) {
		g := []api.Geom{three, one, {Groups: 5, Inodes: 1, Data: 7}}[seed%3]
		size := []int{1, 2, 3, 5, 9, 40}[seed]
		run := func(limit int) int {
			d := rand.New(rand.NewSource(seed))
			w := newTwin(t, size, blank(g))
			for range 40 {
				w.step(throw(d))
			}
			from := w.s.Used()
			if limit >= 0 {
				w.s.Limit(limit)
			}
			for i := range 60 {
				o := throw(d)
				if i%20 == 19 {
					o.Kind = api.OpSync
				}
				w.dim(o)
			}
			used := w.s.Used() - from
			if w.s.Gone() {
				gone++
			}
			w.s.Restore()
			w.hold()
			for range 20 {
				w.step(throw(d))
			}
			w.done(sync())
			w.hold()
			return used
		}
		all := run(-1)
		for units := range all + 1 {
			run(units)
			if t.Failed() {
				t.Fatal("seed ", seed, ", power gone at ", units)
			}
		}
	}
	if gone < 100 {
		t.Error("the power was gone only so often: ", gone)
	}
}

// 26.1, 26.3, 26.4, P2: calls behind a sync that is cut off, with all groups marked, so that they need power for nothing but what the cache could not write: each is done as the tree does it, or tells ErrDown and leaves nothing. With a cache in which all has room none tells that, but such as settle.
func TestDiceStuck(t *testing.T) {
	downs, dones := 0, 0
	for seed := range int64(400) {
		d := rand.New(rand.NewSource(seed))
		g := []api.Geom{three, {Groups: 5, Inodes: 1, Data: 7}, {Groups: 8, Inodes: 1, Data: 5}, {Groups: 1, Inodes: 2, Data: 50}}[seed%4]
		size := 1 + d.Intn(12)
		if seed%7 == 0 {
			size = 64
		}
		w := newTwin(t, size, blank(g))
		for range 40 + d.Intn(40) {
			w.step(throw(d))
		}
		for range 4 {
			w.w.Keep(255)
			for range d.Intn(6) {
				w.step(throw(d))
			}
			w.same("Keep", w.w.Keep(255), api.OK)
			w.s.Limit(d.Intn(6))
			w.f.Do(sync())
			for range 12 {
				o := throw(d)
				was := w.v.Changed()
				graph := w.graph()
				w.dim(o)
				switch {
				case w.graph() != graph:
					dones++
				case len(was) > 0:
					downs++
				}
			}
			if len(w.v.Changed()) > 0 && size == 64 {
				w.roomy(d)
			}
			w.s.Restore()
			w.hold()
		}
		w.step(sync())
		w.hold()
		if t.Failed() {
			t.Fatal("seed ", seed, ", shape ", g, ", size ", size)
		}
	}
	if downs < 1000 || dones < 1000 {
		t.Error("refused, and done, only so often: ", downs, dones)
	}
}

// roomy does ops, none of which settles, where all has room in the cache: no power is needed.
func (w *twin) roomy(d *rand.Rand) {
	w.t.Helper()
	for range 10 {
		o := throw(d)
		if o.Kind == api.OpSync || o.Kind == api.OpFsync {
			continue
		}
		w.step(o)
	}
}
