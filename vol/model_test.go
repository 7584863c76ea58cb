package vol_test

import (
	"fmt"
	"slices"
	"testing"

	"scupper/api"
	"scupper/cache"
	"scupper/disk"
	"scupper/geom"
	"scupper/nvram"
	"scupper/power"
	"scupper/seal"
	"scupper/vol"
)

// model is the chapters' words once more (14 to 17), on a cache, a disk and words of its own: patches and frees are lists, gone over again for each thing that is asked.
type model struct {
	s       *power.Supply
	d       *disk.Disk
	w       *nvram.Words
	c       *cache.Cache
	last    int
	patches []api.Patch
	frees   []vol.Free
}

func newModel(size int, l []api.Block) *model {
	m := &model{s: power.New()}
	m.d, _ = disk.New(len(l), m.s)
	m.d.Load(l)
	m.w = nvram.New(m.s)
	m.w.Clear()
	m.c, _ = cache.New(m.d, size)
	return m
}

func (m *model) has(id int) bool {
	return slices.ContainsFunc(m.patches, func(p api.Patch) bool { return p.Id == id })
}

func meet(p, q api.Patch) bool {
	if p.At != q.At || p.Kind != q.Kind {
		return p.At == q.At
	}
	return p.Off < q.Off+len(q.Data) && q.Off < p.Off+len(p.Data)
}

// before is the patches with lesser numbers that are not written, and meet p.
func (m *model) before(p api.Patch) []api.Patch {
	var l []api.Patch
	for _, q := range m.patches {
		if q.Id < p.Id && !q.Written && meet(p, q) {
			l = append(l, q)
		}
	}
	return l
}

func (m *model) ready(p api.Patch) bool {
	if p.Written || slices.ContainsFunc(p.Needs, m.has) {
		return false
	}
	return !slices.ContainsFunc(m.before(p), func(q api.Patch) bool { return !m.ready(q) })
}

// needed takes in what is needed by what is there, until nothing is new.
func (m *model) needed(ids []int) []api.Patch {
	var l []api.Patch
	for todo := slices.Clone(ids); len(todo) > 0; todo = todo[1:] {
		is := func(p api.Patch) bool { return p.Id == todo[0] }
		k := slices.IndexFunc(m.patches, is)
		if k < 0 || slices.ContainsFunc(l, is) {
			continue
		}
		p := m.patches[k]
		l = append(l, p)
		todo = append(todo, p.Needs...)
		if p.Written {
			continue
		}
		for _, q := range m.before(p) {
			todo = append(todo, q.Id)
		}
	}
	return l
}

// laid is b with patches over it, byte by byte.
func laid(b api.Block, l []api.Patch) api.Block {
	_, turn, _ := seal.Get(seal.Kind(b), b)
	for _, p := range l {
		if p.Kind == 0 {
			for i, x := range p.Data {
				b[p.Off+i] = x
			}
			continue
		}
		load, _, _ := seal.Get(p.Kind, b)
		for i, x := range p.Data {
			load[p.Off+i] = x
		}
		b, _ = seal.Put(p.Kind, turn+1, load)
	}
	return b
}

// of is the patches of a sector that are not written, of those that is tells.
func (m *model) of(sector int, is func(api.Patch) bool) []api.Patch {
	var l []api.Patch
	for _, p := range m.patches {
		if p.At == sector && !p.Written && is(p) {
			l = append(l, p)
		}
	}
	return l
}

func (m *model) now(sector int) (api.Block, api.Errno) {
	b, e := m.c.Get(sector)
	if e != api.OK {
		return api.Block{}, e
	}
	return laid(b, m.of(sector, func(api.Patch) bool { return true })), api.OK
}

func (m *model) load(sector, kind int) (api.Load, api.Errno) {
	b, e := m.now(sector)
	if e != api.OK {
		return api.Load{}, e
	}
	if kind < 1 || kind > 6 || seal.Kind(b) != kind {
		return api.Load{}, api.ErrSeal
	}
	return api.Load(b[:api.Payload]), api.OK
}

func (m *model) mark(l ...int) api.Errno {
	for _, at := range l {
		if at < 2 || at >= sectors {
			continue
		}
		if e := m.w.Mark((at - 2) / 9); e != api.OK {
			return e
		}
	}
	return api.OK
}

func (m *model) patch(p api.Patch) (int, api.Errno) {
	room := api.Sector
	if p.Kind != 0 {
		room = api.Payload
	}
	strange := func(id int) bool { return id < 1 || id > m.last }
	if p.At < 2 || p.At >= sectors || p.Kind < 0 || p.Kind > 6 || len(p.Data) == 0 || p.Off < 0 || p.Off+len(p.Data) > room || slices.ContainsFunc(p.Needs, strange) {
		return 0, api.ErrArg
	}
	m.last++
	p.Id, p.Written = m.last, false
	m.patches = append(m.patches, p)
	if e := m.mark(p.At); e != api.OK {
		return 0, e
	}
	return p.Id, api.OK
}

// isData is whether a sector is one of data; it is looked for among all that there are.
func isData(at int) (int, int, bool) {
	for group := range shape.Groups {
		for i := range shape.Data {
			if n, _ := geom.Data(shape, group, i); n == at {
				return group, i, true
			}
		}
	}
	return 0, 0, false
}

func (m *model) later(f vol.Free) api.Errno {
	f.Blocks = slices.Clone(f.Blocks)
	m.frees = append(m.frees, f)
	for _, at := range f.Blocks {
		if _, _, is := isData(at); !is {
			continue
		}
		if e := m.mark(at); e != api.OK {
			return e
		}
	}
	if f.Ino < 1 || f.Ino > 6 {
		return api.OK
	}
	return m.mark(2 + (f.Ino-1)/3*9)
}

// clear is the patch of a byte of a group's maps without a bit, and whether the place is given back, as it is with maps that are not right.
func (m *model) clear(group, off, bit int) (bool, api.Errno) {
	at := 3 + 9*group
	p, e := m.load(at, api.KindMaps)
	if e == api.ErrSeal {
		return true, api.OK
	}
	if e != api.OK {
		return false, e
	}
	_, e = m.patch(api.Patch{At: at, Off: off, Data: []byte{p[off] &^ (1 << bit)}, Kind: api.KindMaps})
	return true, e
}

// free does f, and tells what is left of it if there is an error.
func (m *model) free(f vol.Free) (vol.Free, api.Errno) {
	for len(f.Blocks) > 0 {
		if group, i, is := isData(f.Blocks[0]); is {
			done, e := m.clear(group, i/8, i%8)
			if !done {
				return f, e
			}
			if e != api.OK {
				f.Blocks = f.Blocks[1:]
				return f, e
			}
		}
		f.Blocks = f.Blocks[1:]
	}
	if f.Ino < 1 || f.Ino > 6 {
		return f, api.OK
	}
	done, e := m.clear((f.Ino-1)/3, 16, (f.Ino-1)%3)
	if done {
		f.Ino = 0
	}
	return f, e
}

// gives is whether there is something that f gives back.
func gives(f vol.Free) bool {
	return f.Ino >= 1 && f.Ino <= 6 || slices.ContainsFunc(f.Blocks, func(at int) bool {
		_, _, is := isData(at)
		return is
	})
}

// look does the frees, one by one: all of them, or those that do not wait.
func (m *model) look(all bool) api.Errno {
	for i := 0; i < len(m.frees); {
		if !all && slices.ContainsFunc(m.frees[i].After, m.has) {
			i++
			continue
		}
		left, e := m.free(m.frees[i])
		if e != api.OK && gives(left) {
			m.frees[i] = left
			return e
		}
		m.frees = slices.Delete(m.frees, i, i+1)
		if e != api.OK {
			return e
		}
	}
	return api.OK
}

// batch is the next one's sectors, whether it is forced, and whether there is one.
func (m *model) batch(ids []int) ([]int, bool, bool) {
	var l []int
	needed := m.needed(ids)
	for at := range sectors {
		if slices.ContainsFunc(needed, func(p api.Patch) bool { return p.At == at && m.ready(p) }) {
			l = append(l, at)
		}
	}
	forced := len(l) == 1 && !slices.ContainsFunc(m.patches, func(p api.Patch) bool { return p.Written && p.At != l[0] })
	return l, forced, len(needed) > 0
}

func (m *model) write(at int, forced bool) api.Errno {
	b, e := m.c.Get(at)
	if e != api.OK {
		return e
	}
	ready := m.of(at, m.ready)
	b = laid(b, ready)
	if forced {
		e = m.c.Force(at, b)
	} else {
		m.c.Put(at, b)
		e = m.c.Back(at)
	}
	if e != api.OK {
		return e
	}
	for _, p := range ready {
		k := slices.IndexFunc(m.patches, func(q api.Patch) bool { return q.Id == p.Id })
		m.patches[k].Written = true
	}
	return api.OK
}

func (m *model) settle(ids ...int) api.Errno {
	for {
		l, forced, more := m.batch(ids)
		if !more {
			return api.OK
		}
		for _, at := range l {
			if e := m.write(at, forced); e != api.OK {
				return e
			}
		}
		if !forced {
			if e := m.d.Flush(); e != api.OK {
				return e
			}
		}
		m.patches = slices.DeleteFunc(m.patches, func(p api.Patch) bool { return p.Written })
		if e := m.look(false); e != api.OK {
			return e
		}
	}
}

func (m *model) ids(is func(api.Patch) bool) []int {
	var l []int
	for _, p := range m.patches {
		if is(p) {
			l = append(l, p.Id)
		}
	}
	return l
}

func (m *model) all() []int { return m.ids(func(api.Patch) bool { return true }) }

func (m *model) sync(keep ...int) api.Errno {
	for len(m.patches)+len(m.frees) > 0 {
		var e api.Errno
		if len(m.patches) > 0 {
			e = m.settle(m.all()...)
		} else {
			e = m.look(true)
		}
		if e != api.OK {
			return e
		}
	}
	var groups uint32
	for _, at := range keep {
		if at >= 2 && at < sectors {
			groups |= 1 << ((at - 2) / 9)
		}
	}
	if said, right := m.w.Says(); right && said == groups {
		return api.OK
	}
	return m.w.Keep(groups)
}

// dice is numbers that look as if they were drawn, and are the same in each run.
type dice uint64

func (d *dice) below(n int) int {
	*d = *d*6364136223846793005 + 1442695040888963407
	return int(uint64(*d)>>33) % n
}

// kindOf is the kind of all patches of a sector, where they are of one.
func kindOf(at int) int {
	p, _ := geom.Where(shape, at)
	if p.Kind == api.KindRaw {
		return []int{0, api.KindPtrs, api.KindDir}[at%3]
	}
	return p.Kind
}

// patch is one that is not refused, of few bytes, so that some meet and some do not; it needs some of the last ones.
func (d *dice) patch(last int) api.Patch {
	p := api.Patch{At: 2 + d.below(sectors-2), Off: d.below(8), Data: make([]byte, 1+d.below(3)), Owner: d.below(9), Child: d.below(9)}
	if d.below(2) == 0 {
		p.At = 3 + d.below(4)
	}
	p.Kind = kindOf(p.At)
	for i := range p.Data {
		p.Data[i] = byte(d.below(256))
	}
	for range d.below(3) {
		if last > 0 {
			p.Needs = append(p.Needs, max(last-d.below(7), 1))
		}
	}
	return p
}

// odd is a patch of another kind than its sector's at times, or such as is refused.
func (d *dice) odd(last int) api.Patch {
	p := d.patch(last)
	switch d.below(5) {
	case 0:
		p.Kind = d.below(9) - 1
	case 1:
		p.At = d.below(sectors+4) - 2
	case 2:
		p.Off = d.below(70) - 2
	case 3:
		p.Needs = append(p.Needs, d.below(last+3)-1)
	}
	return p
}

// free is one of some sectors, at times such as are no sectors of data.
func (d *dice) free(last int) vol.Free {
	f := vol.Free{Ino: d.below(10) - 1}
	for range d.below(4) {
		f.Blocks = append(f.Blocks, d.below(sectors+3)-1)
	}
	for range d.below(3) {
		f.After = append(f.After, last-d.below(6))
	}
	return f
}

func (d *dice) some(most int) []int {
	var l []int
	for range d.below(5) {
		l = append(l, d.below(most+4)-2)
	}
	return l
}

// step does one thing to the volume and to the model, and tells what both answer.
func (r *rig) step(d *dice, m *model) (string, any, any) {
	two := func(a, b any) []any { return []any{a, b} }
	switch n := d.below(24); n {
	case 0, 1, 2, 3, 4, 5, 6, 7:
		p := d.odd(m.last)
		return fmt.Sprint("Patch ", p), two(r.v.Patch(p)), two(m.patch(p))
	case 8, 9, 10:
		f := d.free(m.last)
		return fmt.Sprint("Later ", f), r.v.Later(f), m.later(f)
	case 11:
		l := d.some(sectors)
		return fmt.Sprint("Mark ", l), r.v.Mark(l...), m.mark(l...)
	case 12, 13, 14:
		l := d.some(m.last)
		return fmt.Sprint("Settle ", l), r.v.Settle(l...), m.settle(l...)
	case 15:
		l := d.some(sectors)
		return fmt.Sprint("Sync ", l), r.v.Sync(l...), m.sync(l...)
	case 16, 17:
		at := d.below(sectors+2) - 1
		return fmt.Sprint("Now ", at), two(r.v.Now(at)), two(m.now(at))
	case 18, 19:
		at, kind := d.below(sectors+2)-1, d.below(9)-1
		return fmt.Sprint("Load ", at, kind), two(r.v.Load(at, kind)), two(m.load(at, kind))
	case 20, 21:
		n := d.below(9)
		return fmt.Sprint("Limit ", n), r.s.Limit(n), m.s.Limit(n)
	case 22:
		return "Clear", r.w.Clear(), m.w.Clear()
	}
	r.s.Restore()
	m.s.Restore()
	return "Restore", nil, nil
}

// state is all that can be told of a disk, of words, of a supply and of what is pending.
func state(s *power.Supply, d *disk.Disk, w *nvram.Words) []any {
	l := []any{s.Used(), s.Gone(), d.Writes(), d.Image()}
	for i := range sectors {
		l = append(l, d.Waits(i))
	}
	for i := range 3 {
		x, _ := w.Get(i)
		l = append(l, x)
	}
	return l
}

func equal(a, b []any) bool { return fmt.Sprint(a) == fmt.Sprint(b) }

// 17.1, 17.2: long runs with caches of several sizes, the power going and coming back at any place, wrong patches, frees and numbers among the others: each answer, and all that is left, as the model tells it.
func TestAsTheModel(t *testing.T) {
	for seed := range 240 {
		dice := dice(seed + 1)
		size := []int{1, 2, 3, 6, 64}[seed%5]
		r, m := fresh(t, size), newModel(size, blank())
		var told []string
		for range 40 {
			what, got, want := r.step(&dice, m)
			told = append(told, what)
			r.same("the answer", got, want)
			r.same("the graph", fmt.Sprint(r.v.Graph().All(), r.v.Graph().Written()), fmt.Sprint(m.all(), m.ids(func(p api.Patch) bool { return p.Written })))
			r.pending(len(m.patches), len(m.frees))
			if !equal(state(r.s, r.d, r.w), state(m.s, m.d, m.w)) {
				t.Errorf("what is left: %v, want %v", state(r.s, r.d, r.w), state(m.s, m.d, m.w))
			}
			if t.Failed() {
				t.Fatalf("seed %d, size %d: %q", seed, size, told)
			}
		}
		r.s.Restore()
		m.s.Restore()
		for at := range sectors {
			b, e := r.v.Now(at)
			c, f := m.now(at)
			r.same("now", []any{b, e}, []any{c, f})
		}
	}
}

// nows is what all sectors are now.
func (r *rig) nows() []api.Block {
	var l []api.Block
	for at := range sectors {
		b, e := r.v.Now(at)
		r.same("Now", e, api.OK)
		l = append(l, b)
	}
	return l
}

// 17.3: without frees no sector changes by settling, but for its turn, where its patches are of one kind; whatever settles, and wherever the power goes.
func TestAsItWas(t *testing.T) {
	for seed := range 200 {
		dice := dice(seed + 7000)
		r := fresh(t, []int{1, 3, 64}[seed%3])
		for last := range 30 {
			r.v.Patch(dice.patch(last))
			if dice.below(3) > 0 {
				continue
			}
			was := r.nows()
			if seed%2 == 0 {
				r.s.Limit(dice.below(6))
			}
			if ids := dice.some(last); seed%5 > 0 {
				r.v.Settle(ids...)
			} else {
				r.v.Sync(ids...)
			}
			r.s.Restore()
			for at, b := range r.nows() {
				if !seal.Same(b, was[at]) {
					t.Fatalf("seed %d, behind %d patches: sector %d was %v, and is %v", seed, last+1, at, was[at], b)
				}
			}
		}
	}
}

// 17.3: frees change maps alone, and of these just the bits that they give back.
func TestAsItWasButFrees(t *testing.T) {
	for seed := range 100 {
		dice := dice(seed + 12000)
		r := fresh(t, []int{2, 64}[seed%2])
		var want [2]api.Load
		for last := range 12 {
			p := dice.patch(last)
			if p.Kind == api.KindMaps {
				p.At, p.Kind = 5, kindOf(5)
			}
			r.v.Patch(p)
		}
		for group := range want {
			want[group] = r.load(3+9*group, api.KindMaps)
		}
		for i := range 6 {
			// The free waits for the patch that it comes behind.
			after, group := 1+dice.below(12), dice.below(2)
			r.later([]int{after}, []int{5 + 9*group + i}, 0)
			was := r.nows()
			_, ahead := r.v.Graph().Get(after)
			r.same("Settle", r.v.Settle(12-i, after), api.OK)
			_, frees := r.v.Pending()
			if ahead == api.OK {
				r.same("frees", frees, 0)
			}
			if frees > 0 { // nothing was left to settle, so that it was not looked at
				r.same("Sync", r.v.Sync(), api.OK)
			}
			want[group][0] &^= 1 << i
			for at, b := range r.nows() {
				if at != 3 && at != 12 && !seal.Same(b, was[at]) {
					t.Fatalf("seed %d, free %d: sector %d was %v, and is %v", seed, i, at, was[at], b)
				}
			}
			r.same("group 0", r.load(3, api.KindMaps), want[0])
			r.same("group 1", r.load(12, api.KindMaps), want[1])
		}
	}
}

// 17.4: when Sync was OK nothing is pending, what each sector is is stable, and the words say just what was to be kept; also where the power went on the way, and came back.
func TestAll(t *testing.T) {
	for seed := range 300 {
		dice := dice(seed + 20000)
		r := fresh(t, []int{1, 2, 5, 64}[seed%4])
		for last := range 5 + dice.below(20) {
			r.v.Patch(dice.odd(last))
			if dice.below(3) == 0 {
				r.v.Later(dice.free(last))
			}
			if dice.below(5) == 0 {
				r.s.Limit(dice.below(8))
				r.v.Settle(dice.some(last)...)
				r.s.Restore()
			}
		}
		var keep []int
		if seed%3 > 0 {
			keep = dice.some(sectors)
		}
		if seed%2 == 0 {
			r.s.Limit(dice.below(20))
			r.v.Sync(keep...)
			r.s.Restore()
		}
		r.same("Sync", r.v.Sync(keep...), api.OK)
		r.pending(0, 0)
		r.same("the graph", r.v.Graph().All(), []int{})
		image := r.d.Image()
		for at, b := range r.nows() {
			if b != image[at] || r.d.Waits(at) != 0 {
				t.Fatalf("seed %d: sector %d is %v, and stable is %v", seed, at, b, image[at])
			}
		}
		var groups uint32
		for _, at := range keep {
			if at >= 2 && at < sectors {
				groups |= 1 << ((at - 2) / 9)
			}
		}
		r.says(groups, true)
		r.d.Crash(nil)
		r.again(3)
		for at, b := range r.nows() {
			r.same("behind a crash", b, image[at])
		}
	}
}
