package cache_test

import (
	"slices"
	"testing"

	"scupper/api"
	"scupper/cache"
	"scupper/disk"
	"scupper/power"
)

// What can be asked of a cache.
const (
	doGet = iota
	doPut
	doForce
	doPin
	doUnpin
	doBack
	doSync
	doDrop
)

// step is one thing that is asked.
type step struct{ kind, at, n int }

// slot is what a sector is held with.
type slot struct {
	at, n   int
	changed bool
	pins    int
}

// model is the chapter's words once more: blocks are numbers, the order is a list, and the power is a number of units (below 0: without an end).
type model struct {
	size, units  int
	gone         bool
	shows, waits []int
	used         int
	held         []slot
	hits, misses int
}

func (m *model) power() bool {
	if m.gone || m.units == 0 {
		m.gone = true
		return false
	}
	m.units--
	m.used++
	return true
}

func (m *model) write(s *slot) api.Errno {
	if !s.changed {
		return api.OK
	}
	if !m.power() {
		return api.ErrDown
	}
	m.shows[s.at] = s.n
	m.waits[s.at]++
	s.changed = false
	return api.OK
}

func (m *model) where(at int) int {
	return slices.IndexFunc(m.held, func(s slot) bool { return s.at == at })
}

// use brings sector at to the front of the list.
func (m *model) use(at int) api.Errno {
	if at < 0 || at >= len(m.shows) {
		return api.ErrArg
	}
	if k := m.where(at); k >= 0 {
		m.hits++
		s := m.held[k]
		m.held = append([]slot{s}, append(slices.Clone(m.held[:k]), m.held[k+1:]...)...)
		return api.OK
	}
	if len(m.held) == m.size {
		k := len(m.held) - 1
		for k >= 0 && m.held[k].pins > 0 {
			k--
		}
		if k < 0 {
			return api.ErrFull
		}
		if e := m.write(&m.held[k]); e != api.OK {
			return e
		}
		m.held = append(slices.Clone(m.held[:k]), m.held[k+1:]...)
	}
	m.misses++
	m.held = append([]slot{{at: at, n: m.shows[at]}}, m.held...)
	return api.OK
}

func (m *model) force(at, n int) api.Errno {
	if !m.power() {
		return api.ErrDown
	}
	m.shows[at], m.waits[at] = n, 0
	m.held[0].n, m.held[0].changed = n, false
	return api.OK
}

func (m *model) pin(at, by int) api.Errno {
	k := m.where(at)
	if k < 0 || m.held[k].pins+by < 0 {
		return api.ErrNone
	}
	m.held[k].pins += by
	return api.OK
}

func (m *model) changed() []int {
	var l []int
	for at := range m.shows {
		if k := m.where(at); k >= 0 && m.held[k].changed {
			l = append(l, at)
		}
	}
	return l
}

func (m *model) sync() api.Errno {
	first := api.OK
	for _, at := range m.changed() {
		if e := m.write(&m.held[m.where(at)]); first == api.OK {
			first = e
		}
	}
	return first
}

// do is what the model answers: a block's number, and an error.
func (m *model) do(s step) (int, api.Errno) {
	switch s.kind {
	case doGet, doPut, doForce:
		e := m.use(s.at)
		if e != api.OK {
			return 0, e
		}
		if s.kind == doGet {
			return m.held[0].n, e
		}
		if s.kind == doForce {
			return 0, m.force(s.at, s.n)
		}
		m.held[0].n, m.held[0].changed = s.n, true
		return 0, e
	case doPin:
		return 0, m.pin(s.at, 1)
	case doUnpin:
		return 0, m.pin(s.at, -1)
	case doBack:
		k := m.where(s.at)
		if k < 0 {
			return 0, api.ErrNone
		}
		return 0, m.write(&m.held[k])
	case doSync:
		return 0, m.sync()
	}
	m.held = nil
	return 0, api.OK
}

// ask is what the cache answers.
func ask(c *cache.Cache, s step) (api.Block, api.Errno) {
	switch s.kind {
	case doGet:
		return c.Get(s.at)
	case doPut:
		return api.Block{}, c.Put(s.at, block(s.n))
	case doForce:
		return api.Block{}, c.Force(s.at, block(s.n))
	case doPin:
		return api.Block{}, c.Pin(s.at)
	case doUnpin:
		return api.Block{}, c.Unpin(s.at)
	case doBack:
		return api.Block{}, c.Back(s.at)
	case doSync:
		return api.Block{}, c.Sync()
	}
	c.Drop()
	return api.Block{}, api.OK
}

// both is a cache, and the model of it.
type both struct {
	c *cache.Cache
	d *disk.Disk
	s *power.Supply
	m *model
}

// pair is a cache of a disk of n sectors with so many units of power (below 0: without an end).
func pair(t *testing.T, n, size, units int) both {
	t.Helper()
	c, d, s := made(t, n, size)
	if units >= 0 {
		told(t, "Limit", s.Limit(units), api.OK)
	}
	return both{c, d, s, &model{size: size, units: units, shows: make([]int, n), waits: make([]int, n)}}
}

// run asks both, and holds what they answer against each other.
func (x both) run(t *testing.T, s step) bool {
	b, e := ask(x.c, s)
	n, f := x.m.do(s)
	if b != block(n) || e != f {
		t.Errorf("%v: %v, %d, want block %d, %d", s, b, e, n, f)
		return false
	}
	return x.alike(t, s)
}

// alike holds all that can be told of both against each other.
func (x both) alike(t *testing.T, s step) bool {
	var held []int
	for _, h := range x.m.held {
		held = append(held, h.at)
	}
	if l := x.c.Held(); !slices.Equal(l, held) {
		t.Errorf("%v: held %v, want %v", s, l, held)
		return false
	}
	if l, w := x.c.Changed(), x.m.changed(); !slices.Equal(l, w) {
		t.Errorf("%v: changed %v, want %v", s, l, w)
		return false
	}
	if h, m := x.c.Counts(); h != x.m.hits || m != x.m.misses {
		t.Errorf("%v: counts %d, %d, want %d, %d", s, h, m, x.m.hits, x.m.misses)
		return false
	}
	if x.s.Used() != x.m.used || x.s.Gone() != x.m.gone {
		t.Errorf("%v: used %d, gone %v, want %d, %v", s, x.s.Used(), x.s.Gone(), x.m.used, x.m.gone)
		return false
	}
	for i, n := range x.m.shows {
		if b, _ := x.d.Read(i); b != block(n) || x.d.Waits(i) != x.m.waits[i] {
			t.Errorf("%v: sector %d shows %v, %d wait, want block %d, %d", s, i, b, x.d.Waits(i), n, x.m.waits[i])
			return false
		}
	}
	return true
}

// steps are all that can be asked of sectors 0 to n-1, each of which is put with a number of its own.
func steps(n, mark int) []step {
	l := []step{{kind: doSync}, {kind: doDrop}}
	for at := range n {
		for kind := doGet; kind <= doBack; kind++ {
			l = append(l, step{kind, at, mark})
		}
	}
	return l
}

// 13.1, 13.2: every run of four steps on three sectors, by caches of 1 and 2, with each power that makes a difference.
func TestEveryRun(t *testing.T) {
	const long = 4
	all := make([][]step, long)
	for k := range all {
		all[k] = steps(3, k+1)
	}
	runs := 1
	for range long {
		runs *= len(all[0])
	}
	for size := 1; size <= 2; size++ {
		for units := -1; units <= 2; units++ {
			for r := range runs {
				x := pair(t, 3, size, units)
				left := r
				for k := range long {
					s := all[k][left%len(all[k])]
					left /= len(all[k])
					if !x.run(t, s) {
						t.Fatalf("size %d, units %d, run %d, step %d", size, units, r, k)
					}
				}
			}
		}
	}
}

// dice are numbers that look drawn by chance, the same ones each time.
type dice uint32

func (d *dice) upTo(n int) int {
	*d = *d*1664525 + 1013904223
	return int(*d>>8) % n
}

// 13.1, 13.2: long runs on more sectors, by caches of each size, with the power going and coming back.
func TestLongRuns(t *testing.T) {
	d := dice(1)
	for size := 1; size <= maxCache; size++ {
		n := size + 1 + d.upTo(2*size)
		x := pair(t, n, size, -1)
		for k := range 600 {
			if d.upTo(25) == 0 {
				x.s.Restore()
				x.m.units, x.m.gone = -1, false
				if u := d.upTo(12); u < 8 {
					x.s.Limit(u)
					x.m.units = u
				}
			}
			if !x.run(t, someStep(&d, n, k)) {
				t.Fatalf("size %d, step %d", size, k)
			}
		}
	}
}

// someStep is one that is asked: uses mostly, Drop seldom, and now and then of a sector that there is not.
func someStep(d *dice, n, k int) step {
	at := d.upTo(n+2) - 1
	switch w := d.upTo(100); {
	case w < 25:
		return step{doGet, at, 0}
	case w < 50:
		return step{doPut, at, k + 1}
	case w < 62:
		return step{doForce, at, k + 1}
	case w < 72:
		return step{doPin, at, 0}
	case w < 86:
		return step{doUnpin, at, 0}
	case w < 96:
		return step{doBack, at, 0}
	case w < 99:
		return step{doSync, 0, 0}
	}
	return step{doDrop, 0, 0}
}

// 13.3 (shows): whatever goes and comes, Get tells what was put or forced there last, or, if nothing was, what the disk shows.
func TestShows(t *testing.T) {
	d := dice(7)
	for size := 1; size <= 9; size++ {
		const n = 12
		c, on, _ := made(t, n, size)
		last := make([]int, n)
		for i := range last {
			last[i] = 200 + i
			told(t, "Write", on.Write(i, block(last[i])), api.OK)
		}
		for k := range 3000 {
			i := d.upTo(n)
			switch d.upTo(6) {
			case 0:
				puts(t, c, i, k)
				last[i] = k
			case 1:
				forces(t, c, i, k)
				last[i] = k
			case 2:
				c.Back(i)
			case 3:
				told(t, "Sync", c.Sync(), api.OK)
			default:
				gets(t, c, i, last[i])
			}
		}
	}
}

// 13.4 (synced): when Sync was OK the disk shows what the cache holds, and behind a flush a crash takes none of it.
func TestSynced(t *testing.T) {
	d := dice(3)
	for size := 1; size <= 9; size++ {
		const n = 12
		c, on, s := made(t, n, size)
		last := make([]int, n)
		for k := range 600 {
			i := d.upTo(n)
			if d.upTo(3) > 0 {
				if c.Put(i, block(k+1)) == api.OK {
					last[i] = k + 1
				}
				continue
			}
			if d.upTo(4) == 0 {
				s.Limit(d.upTo(size + 1))
			}
			if c.Sync() == api.OK {
				sectors(t, "changed", c.Changed())
				for i, w := range last {
					shows(t, on, i, w)
				}
				for _, i := range c.Held() {
					b, _ := on.Read(i)
					h, e := c.Get(i)
					if b != h || e != api.OK {
						t.Errorf("sector %d: the disk shows %v, the cache holds %v", i, b, h)
					}
				}
			}
			s.Restore()
		}
	}
}
