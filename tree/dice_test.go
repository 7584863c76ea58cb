package tree_test

import (
	"fmt"
	"math/rand"
	"reflect"
	"slices"
	"sort"
	"strings"
	"testing"

	"scupper/api"
	"scupper/fds"
	"scupper/tree"
)

// edge is a name of node id in directory dir.
type edge struct {
	dir  int
	name string
	id   int
}

// model is a second reckoning of the chapter's words: a list of names, out of which links and paths are counted anew each time.
type model struct {
	edges []edge
	kinds map[int]int // 0: none, or gone
	data  map[int]string
	last  int
	open  [maxFds]fds.File // Ino 0: free
}

func newModel() *model {
	return &model{kinds: map[int]int{1: isDir}, data: map[int]string{}, last: 1}
}

func (m *model) copy() *model {
	c := &model{edges: slices.Clone(m.edges), kinds: map[int]int{}, data: map[int]string{}, last: m.last, open: m.open}
	for id, kind := range m.kinds {
		c.kinds[id], c.data[id] = kind, m.data[id]
	}
	return c
}

func (m *model) links(id int) int {
	if id == 1 {
		return 1
	}
	n := 0
	for _, x := range m.edges {
		if x.id == id {
			n++
		}
	}
	return n
}

func (m *model) names(dir int) []api.Entry {
	var l []api.Entry
	for _, x := range m.edges {
		if x.dir == dir {
			l = append(l, api.Entry{Ino: x.id, Name: x.name})
		}
	}
	sort.Slice(l, func(i, j int) bool { return l[i].Name < l[j].Name })
	return l
}

func (m *model) at(dir int, name string) int {
	for _, x := range m.edges {
		if x.dir == dir && x.name == name {
			return x.id
		}
	}
	return 0
}

func (m *model) walk(names []string) (int, api.Errno) {
	id := 1
	for _, name := range names {
		if m.kinds[id] != isDir {
			return 0, api.ErrNotDir
		}
		if id = m.at(id, name); id == 0 {
			return 0, api.ErrNoEnt
		}
	}
	return id, api.OK
}

// split is right for the texts that are thrown here: names of letters, each with a / ahead of it.
func split(p string) ([]string, api.Errno) {
	if p == "/" {
		return nil, api.OK
	}
	l := strings.Split(p, "/")
	if l[0] != "" || slices.Contains(l[1:], "") || len(l) == 1 {
		return nil, api.ErrName
	}
	if len(l) > 1+maxDepth {
		return nil, api.ErrLong
	}
	return l[1:], api.OK
}

// parent is the directory of a path's last name, that name, and what it has there.
func (m *model) parent(p string, root api.Errno) (int, string, int, api.Errno) {
	l, e := split(p)
	if e != api.OK {
		return 0, "", 0, e
	}
	if len(l) == 0 {
		return 0, "", 0, root
	}
	dir, e := m.walk(l[:len(l)-1])
	if e != api.OK {
		return 0, "", 0, e
	}
	if m.kinds[dir] != isDir {
		return 0, "", 0, api.ErrNotDir
	}
	name := l[len(l)-1]
	return dir, name, m.at(dir, name), api.OK
}

func (m *model) take(dir int, name string) {
	m.edges = slices.DeleteFunc(m.edges, func(x edge) bool { return x.dir == dir && x.name == name })
}

func (m *model) born(dir int, name string, kind int) int {
	m.last++
	m.kinds[m.last] = kind
	m.edges = append(m.edges, edge{dir, name, m.last})
	return m.last
}

// sweep lets be gone what has no name and is not open.
func (m *model) sweep() {
	for id := range m.kinds {
		open := slices.ContainsFunc(m.open[:], func(f fds.File) bool { return f.Ino == id })
		if m.links(id) == 0 && !open {
			delete(m.kinds, id)
			delete(m.data, id)
		}
	}
}

func (m *model) do(o api.Op) api.Answer {
	a := m.try(o)
	m.sweep()
	return a
}

func no(e api.Errno) api.Answer { return api.Answer{Err: e} }

func (m *model) try(o api.Op) api.Answer {
	switch o.Kind {
	case api.OpOpen:
		return m.opening(o)
	case api.OpClose, api.OpRead, api.OpWrite, api.OpSeek, api.OpFsync:
		if o.Fd < 0 || o.Fd >= maxFds || m.open[o.Fd].Ino == 0 {
			return no(api.ErrBadFd)
		}
		return m.atPlace(o, &m.open[o.Fd])
	case api.OpMkdir, api.OpRmdir, api.OpUnlink:
		return m.named(o)
	case api.OpLink:
		return m.linking(o)
	case api.OpRename:
		return m.renaming(o)
	case api.OpStat, api.OpList, api.OpCut:
		return m.walked(o)
	case api.OpSync:
		return api.Answer{}
	}
	return no(api.ErrArg)
}

func (m *model) opening(o api.Op) api.Answer {
	if o.Flags < 0 || o.Flags > 31 || o.Flags&3 == 0 || o.Flags&only != 0 && o.Flags&create == 0 || o.Flags&cutting != 0 && o.Flags&forWrite == 0 {
		return no(api.ErrArg)
	}
	dir, name, id, e := m.parent(o.Path, api.ErrIsDir)
	if e != api.OK {
		return no(e)
	}
	if id != 0 && o.Flags&only != 0 {
		return no(api.ErrExist)
	}
	if id != 0 && m.kinds[id] == isDir {
		return no(api.ErrIsDir)
	}
	if id == 0 && o.Flags&create == 0 {
		return no(api.ErrNoEnt)
	}
	fd := slices.IndexFunc(m.open[:], func(f fds.File) bool { return f.Ino == 0 })
	if fd < 0 {
		return no(api.ErrFiles)
	}
	if id == 0 {
		id = m.born(dir, name, isFile)
	}
	if o.Flags&cutting != 0 {
		m.data[id] = ""
	}
	m.open[fd] = fds.File{Ino: id, Mode: o.Flags & 3}
	return api.Answer{N: fd}
}

func (m *model) atPlace(o api.Op, f *fds.File) api.Answer {
	have := m.data[f.Ino]
	switch o.Kind {
	case api.OpClose:
		*f = fds.File{}
	case api.OpSeek:
		if o.Off < 0 || o.Off > maxSize {
			return no(api.ErrArg)
		}
		f.Pos = o.Off
		return api.Answer{N: o.Off}
	case api.OpRead:
		if f.Mode&forRead == 0 {
			return no(api.ErrMode)
		}
		if o.N < 0 || o.N > maxBytes {
			return no(api.ErrArg)
		}
		var got []byte
		for len(got) < o.N && f.Pos < len(have) {
			got = append(got, have[f.Pos])
			f.Pos++
		}
		return api.Answer{Data: got}
	case api.OpWrite:
		if f.Mode&forWrite == 0 {
			return no(api.ErrMode)
		}
		if len(o.Data) > maxBytes {
			return no(api.ErrArg)
		}
		if f.Pos+len(o.Data) > maxSize {
			return no(api.ErrBig)
		}
		if len(o.Data) > 0 {
			have += strings.Repeat("\x00", max(0, f.Pos+len(o.Data)-len(have)))
			m.data[f.Ino] = have[:f.Pos] + string(o.Data) + have[f.Pos+len(o.Data):]
		}
		f.Pos += len(o.Data)
		return api.Answer{N: len(o.Data)}
	}
	return api.Answer{}
}

func (m *model) named(o api.Op) api.Answer {
	root := map[int]api.Errno{api.OpMkdir: api.ErrExist, api.OpRmdir: api.ErrBusy, api.OpUnlink: api.ErrIsDir}[o.Kind]
	dir, name, id, e := m.parent(o.Path, root)
	if e != api.OK {
		return no(e)
	}
	if o.Kind == api.OpMkdir {
		if id != 0 {
			return no(api.ErrExist)
		}
		m.born(dir, name, isDir)
		return api.Answer{}
	}
	if id == 0 {
		return no(api.ErrNoEnt)
	}
	if o.Kind == api.OpUnlink && m.kinds[id] == isDir {
		return no(api.ErrIsDir)
	}
	if o.Kind == api.OpRmdir && m.kinds[id] != isDir {
		return no(api.ErrNotDir)
	}
	if o.Kind == api.OpRmdir && len(m.names(id)) > 0 {
		return no(api.ErrNotEmpty)
	}
	m.take(dir, name)
	return api.Answer{}
}

func (m *model) linking(o api.Op) api.Answer {
	l, e := split(o.Path)
	if e != api.OK {
		return no(e)
	}
	id, e := m.walk(l)
	if e != api.OK {
		return no(e)
	}
	if m.kinds[id] == isDir {
		return no(api.ErrIsDir)
	}
	dir, name, was, e := m.parent(o.To, api.ErrExist)
	if e != api.OK {
		return no(e)
	}
	if was != 0 {
		return no(api.ErrExist)
	}
	if m.links(id) == maxLinks {
		return no(api.ErrLinks)
	}
	m.edges = append(m.edges, edge{dir, name, id})
	return api.Answer{}
}

func (m *model) renaming(o api.Op) api.Answer {
	a, e := split(o.Path)
	if e != api.OK {
		return no(e)
	}
	b, e := split(o.To)
	if e != api.OK {
		return no(e)
	}
	if o.Path == "/" || o.To == "/" {
		return no(api.ErrBusy)
	}
	dir, name, id, e := m.parent(o.Path, api.ErrBusy)
	if e != api.OK {
		return no(e)
	}
	if id == 0 {
		return no(api.ErrNoEnt)
	}
	if m.kinds[id] == isDir && len(b) > len(a) && strings.HasPrefix(o.To, o.Path+"/") {
		return no(api.ErrInside)
	}
	toDir, toName, was, e := m.parent(o.To, api.ErrBusy)
	if e != api.OK {
		return no(e)
	}
	if was == id {
		return api.Answer{}
	}
	if was != 0 && m.kinds[id] == isDir && m.kinds[was] != isDir {
		return no(api.ErrNotDir)
	}
	if was != 0 && m.kinds[id] != isDir && m.kinds[was] == isDir {
		return no(api.ErrIsDir)
	}
	if was != 0 && len(m.names(was)) > 0 {
		return no(api.ErrNotEmpty)
	}
	if m.links(id) == maxLinks {
		return no(api.ErrLinks)
	}
	m.take(dir, name)
	m.take(toDir, toName)
	m.edges = append(m.edges, edge{toDir, toName, id})
	return api.Answer{}
}

func (m *model) walked(o api.Op) api.Answer {
	l, e := split(o.Path)
	if e != api.OK {
		return no(e)
	}
	id, e := m.walk(l)
	if e != api.OK {
		return no(e)
	}
	switch {
	case o.Kind == api.OpStat:
		return api.Answer{Stat: api.Stat{Kind: m.kinds[id], Size: len(m.data[id]), Links: m.links(id)}}
	case o.Kind == api.OpList && m.kinds[id] != isDir:
		return no(api.ErrNotDir)
	case o.Kind == api.OpList:
		var names []string
		for _, x := range m.names(id) {
			names = append(names, x.Name)
		}
		return api.Answer{Names: names}
	case m.kinds[id] == isDir:
		return no(api.ErrIsDir)
	case o.N < 0:
		return no(api.ErrArg)
	case o.N > maxSize:
		return no(api.ErrBig)
	}
	have := m.data[id] + strings.Repeat("\x00", max(0, o.N-len(m.data[id])))
	m.data[id] = have[:o.N]
	return api.Answer{}
}

// paths is all paths, found by asking of each node that has names below a path that is known.
func (m *model) paths() []string {
	l := []tree.Place{{Path: "/", Id: 1}}
	for i := 0; i < len(l); i++ {
		for _, x := range m.names(l[i].Id) {
			p := strings.TrimSuffix(l[i].Path, "/") + "/" + x.Name
			if strings.Count(p, "/") <= maxDepth {
				l = append(l, tree.Place{Path: p, Id: x.Ino})
			}
		}
	}
	sort.Slice(l, func(i, j int) bool { return l[i].Path < l[j].Path })
	var texts []string
	for _, p := range l {
		texts = append(texts, fmt.Sprint(p.Path, "=", p.Id))
	}
	return texts
}

// hold holds a tree against the model.
func hold(t *testing.T, x *tree.Tree, m *model) {
	t.Helper()
	var texts []string
	for _, p := range x.Paths() {
		texts = append(texts, fmt.Sprint(p.Path, "=", p.Id))
		if id, e := x.Walk(p.Path); e != api.OK || id != p.Id {
			t.Fatalf("%+v leads to %d %v", p, id, e)
		}
	}
	if want := m.paths(); !slices.Equal(texts, want) {
		t.Fatalf("Paths: %v, want %v", texts, want)
	}
	for id := -1; id < m.last+3; id++ {
		n, e := x.Node(id)
		if m.kinds[id] == 0 {
			if e != api.ErrNone || !reflect.DeepEqual(n, tree.Node{}) {
				t.Fatalf("Node(%d): %+v %v, want none", id, n, e)
			}
			continue
		}
		if e != api.OK || n.Kind != m.kinds[id] || n.Links != m.links(id) || string(n.Data) != m.data[id] || !slices.Equal(n.Names, m.names(id)) {
			t.Fatalf("Node(%d): %+v %v, want kind %d, %d links, %q, %v", id, n, e, m.kinds[id], m.links(id), m.data[id], m.names(id))
		}
	}
	open := x.Open()
	for fd, want := range m.open {
		if f, _ := open.Get(fd); f != want {
			t.Fatalf("place %d: %+v, want %+v", fd, f, want)
		}
	}
}

// throwPath is a path of few names, mostly short, at times wrong.
func throwPath(d *rand.Rand) string {
	switch d.Intn(40) {
	case 0:
		return "/"
	case 1:
		return "a"
	case 2:
		return "/a/"
	case 3:
		return strings.Repeat("/a", maxDepth+d.Intn(2))
	}
	p := ""
	for range 1 + d.Intn(1+d.Intn(4)) {
		p += "/" + string("abc"[d.Intn(3)])
	}
	return p
}

// throw is anything that can be asked.
func throw(d *rand.Rand) api.Op {
	o := api.Op{Kind: 1 + d.Intn(15), Path: throwPath(d), To: throwPath(d), Fd: d.Intn(5), N: d.Intn(20), Off: d.Intn(30), Flags: d.Intn(8)}
	switch d.Intn(12) {
	case 0:
		o.Fd = d.Intn(14) - 3
	case 1:
		o.N = []int{-1, maxBytes, maxBytes + 1, maxSize, maxSize + 1}[d.Intn(5)]
	case 2:
		o.Off = []int{-1, maxSize - 2, maxSize, maxSize + 1}[d.Intn(4)]
	case 3:
		o.Flags = d.Intn(40) - 2
	case 4:
		o.Kind = d.Intn(20) - 2
	case 5:
		o.Kind = api.OpOpen
	}
	o.Data = make([]byte, d.Intn(9))
	if d.Intn(60) == 0 {
		o.Data = make([]byte, maxBytes-1+d.Intn(3))
	}
	for i := range o.Data {
		o.Data[i] = byte(d.Intn(256))
	}
	return o
}

// 25.1 to 25.4: long runs held against the second reckoning, answer by answer and node by node, with copies on the way.
func TestDice(t *testing.T) {
	for seed := range int64(60) {
		d := rand.New(rand.NewSource(seed))
		x, m := tree.New(), newModel()
		for range 500 {
			o := throw(d)
			given := slices.Clone(o.Data)
			before := m.copy()
			a, want := x.Do(o), m.do(o)
			if a.Err != want.Err || a.N != want.N || string(a.Data) != string(want.Data) || !slices.Equal(a.Names, want.Names) || a.Stat != want.Stat {
				t.Fatalf("%+v: %+v, want %+v", o, a, want)
			}
			if !slices.Equal(given, o.Data) {
				t.Fatalf("what was handed in was changed")
			}
			if a.Err != api.OK {
				m = before // 25.4: of the second reckoning, too, nothing is left
			}
			if d.Intn(4) == 0 {
				hold(t, x, m)
			}
			if d.Intn(50) == 0 {
				was, then := x, m.copy()
				x = x.Copy()
				for range 10 {
					o := throw(d)
					x.Do(o)
					m.do(o)
				}
				hold(t, was, then)
			}
		}
		hold(t, x, m)
	}
}

// 25.3: as many links as names, and none of a file that is open alone, in long runs of names alone.
func TestLinksCount(t *testing.T) {
	d := rand.New(rand.NewSource(7))
	r := newRig(t)
	for _, p := range []string{"/a", "/b", "/a/a", "/b/b"} {
		r.done(mkdir(p))
	}
	r.has("/c", "one")
	r.has("/a/c", "two")
	r.open("/c", forRead, 0)
	r.open("/a/c", forRead, 1)
	const most = 1000 // of what is asked, so that no node has a number beyond that and a few more
	for range most {
		o := throw(d)
		o.Kind = []int{api.OpLink, api.OpLink, api.OpUnlink, api.OpRename, api.OpMkdir, api.OpRmdir}[d.Intn(6)]
		r.x.Do(o)
		links, counts := map[int]int{}, map[int]int{1: 1}
		for id := range most + 10 {
			n, e := r.x.Node(id)
			if e != api.OK {
				continue
			}
			links[id] = n.Links
			for _, x := range n.Names {
				counts[x.Ino]++
			}
		}
		for id, n := range links {
			if n != counts[id] {
				t.Fatalf("%d has %d links, but %d names", id, n, counts[id])
			}
			delete(counts, id)
		}
		if len(counts) > 0 {
			t.Fatalf("names of nodes that are gone: %v", counts)
		}
	}
}
