package file_test

import (
	"fmt"
	"slices"
	"testing"

	"scupper/api"
	"scupper/bmap"
	"scupper/disk"
	"scupper/file"
	"scupper/seal"
	"scupper/vol"
)

// dice is numbers that look as if they were drawn, and are the same in each run.
type dice uint64

func (d *dice) below(n int) int {
	*d = *d*6364136223846793005 + 1442695040888963407
	return int(uint64(*d)>>33) % n
}

// border is a number of blocks, most of them near where something ends.
func (d *dice) border() int {
	l := []int{0, 1, 3, 4, 5, 8, 30, 31, 32, 57, 58, 59, 85, 86, 112, 733, 759, 760}
	if d.below(5) == 0 {
		return d.below(api.MaxBlocks)
	}
	return l[d.below(len(l))]
}

// place is a place in a file, most of them near where a block ends.
func (d *dice) place() int {
	return 64*d.border() + []int{0, 0, 1, 63, -1, 30, d.below(64)}[d.below(7)]
}

// bytes is some bytes, of which a few are noughts.
func (d *dice) bytes(n int) []byte {
	l := make([]byte, n)
	for i := range l {
		l[i] = byte(d.below(256))
	}
	return l
}

// length is how many bytes are read or written.
func (d *dice) length() int {
	return []int{0, 1, 2, 64, 65, 128, 200, 500, d.below(100), d.below(1000)}[d.below(10)]
}

// The chapter's words once more, on a volume of its own.

// pointers is what a sector of pointers has now; noughts, if it is not right or there is none.
func (r *rig) pointers(sector int) (l [27]int) {
	if sector == 0 {
		return l
	}
	p, e := r.v.Load(sector, api.KindPtrs)
	for i := range l {
		if e == api.OK {
			l[i] = int(p[2*i]) + int(p[2*i+1])<<8
		}
	}
	return l
}

// walk goes along a block's way: the block's sector, 0 if there is none; and whether a sector of pointers on it is not right.
func (r *rig) walk(x api.Inode, k int) (sector int, wrong bool) {
	w := wayOf(k)
	to := int(own(x)[w[0]])
	for _, i := range w[1:] {
		if to == 0 {
			return 0, false
		}
		if _, e := r.v.Load(to, api.KindPtrs); e != api.OK {
			return 0, true
		}
		to = r.pointers(to)[i]
	}
	return to, false
}

// where is the sectors of all blocks, and of those of pointers (Single 0, Double 1, then those of Double), of an inode.
func (r *rig) where(x api.Inode) (block map[int]int, tables [29]int) {
	block = map[int]int{}
	for k := range api.MaxBlocks {
		if sector, _ := r.walk(x, k); sector != 0 {
			block[k] = sector
		}
	}
	tables[0], tables[1] = int(x.Single), int(x.Double)
	l := r.pointers(int(x.Double))
	copy(tables[2:], l[:])
	return block, tables
}

// opened is the inode, and what is told of it whatever is done.
func (r *rig) opened(ino int, args, big bool) (api.Inode, api.Errno) {
	if ino < 1 || ino > 3*r.g.Inodes*r.g.Groups || args {
		return api.Inode{}, api.ErrArg
	}
	sector, off, _ := at(r.g, ino)
	p, e := r.v.Load(sector, api.KindInode)
	x := inodeOf(p[off : off+18])
	switch {
	case e == api.OK && x.Kind == 0:
		return x, api.ErrArg
	case big:
		return x, api.ErrBig
	}
	return x, e
}

func (r *rig) wantRead(ino, off, n int) ([]byte, api.Errno) {
	x, e := r.opened(ino, off < 0 || n < 0 || n > 4096, false)
	if e != api.OK {
		return nil, e
	}
	var l []byte
	for i := off; i < off+n && i < int(x.Size); i++ {
		sector := 0
		if i < api.MaxSize {
			sector, _ = r.walk(x, i/64)
		}
		c := byte(0)
		if sector != 0 {
			b, _ := r.v.Now(sector)
			c = b[i%64]
		}
		l = append(l, c)
	}
	return l, api.OK
}

// count is Cost by the words: what is missing to which nothing leads.
func (r *rig) count(x api.Inode, off, n int) int {
	if x.Kind == 0 || off < 0 || n < 0 || n > 4096 || off+n > api.MaxSize && n > 0 {
		return 0
	}
	taken := map[string]int{}
	for i := off; i < off+n; i++ {
		w := wayOf(i / 64)
		to, pass := int(own(x)[w[0]]), fmt.Sprint(w[0])
		for _, i := range w[1:] {
			if to == 0 {
				taken[pass]++
			}
			pass = fmt.Sprint(pass, " ", i)
			to = r.pointers(to)[i]
		}
		if to == 0 {
			taken[pass]++
		}
	}
	return len(taken)
}

// write is Write by the words.
func (r *rig) write(ino, off int, data []byte) api.Errno {
	x, e := r.opened(ino, off < 0 || len(data) > 4096, off+len(data) > api.MaxSize && len(data) > 0)
	if e != api.OK || len(data) == 0 {
		return e
	}
	if r.count(x, off, len(data)) > r.free() {
		return api.ErrSpace
	}
	end := off + len(data)
	for k := off / 64; k <= (end-1)/64; k++ {
		if _, wrong := r.walk(x, k); wrong {
			return api.ErrSeal
		}
	}
	var ids []int
	for k := off / 64; k <= (end-1)/64; k++ {
		from, to := max(off, 64*k), min(end, 64*k+64)
		part := data[from-off : to-off]
		sector, _ := r.walk(r.inode(ino), k)
		var id int
		if sector != 0 {
			id, e = r.v.Patch(raw(sector, from-64*k, part, ino))
		} else {
			_, id, e = bmap.Put(r.v, ino, k, bmap.Content{Data: append(make([]byte, from-64*k), part...)})
		}
		if e != api.OK {
			return e
		}
		ids = append(ids, id)
	}
	if end > int(x.Size) {
		_, e = r.v.Patch(size(r.g, ino, end, ids...))
	}
	return e
}

// lets is what is free behind a patch.
func (r *rig) lets(id int, l ...int) {
	if len(l) > 0 {
		r.v.Later(vol.Free{After: []int{id}, Blocks: l})
	}
}

// cut is Cut by the words.
func (r *rig) cut(ino, n int) api.Errno {
	x, e := r.opened(ino, n < 0, n > api.MaxSize)
	if e != api.OK {
		return e
	}
	if n >= int(x.Size) {
		_, e := r.v.Patch(size(r.g, ino, n))
		return e
	}
	block, tables := r.where(x)
	need := (n + 63) / 64
	y := x
	y.Size = uint32(n)
	var gone []int
	for k := range api.MaxBlocks {
		if k >= need && block[k] != 0 && (k < 4 || k < 31 && need <= 4 || k >= 31 && need <= 31) {
			gone = append(gone, block[k])
		}
	}
	for k := need; k < 4; k++ {
		y.Direct[k] = 0
	}
	if need <= 4 {
		y.Single = 0
		gone = append(gone, notNone(tables[:1])...)
	}
	if need <= 31 {
		y.Double = 0
		gone = append(gone, notNone(tables[1:])...)
	}
	t, _ := r.v.Patch(set(r.g, ino, 2, bytesOf(y)[2:]))
	r.lets(t, gone...)
	for k := max(need, 4); k < 31 && need > 4; k++ {
		if block[k] != 0 {
			id, _ := r.v.Patch(leads(tables[0], k-4, 0, ino, t))
			r.lets(id, block[k])
		}
	}
	r.cutDouble(ino, need, t, block, tables)
	if sector, in := block[need-1]; in && n%64 != 0 {
		r.v.Patch(noughts(sector, n%64, ino, t))
	}
	return api.OK
}

// cutDouble is what goes of Double, if it stays.
func (r *rig) cutDouble(ino, need, t int, block map[int]int, tables [29]int) {
	for i := 0; i < 27 && need > 31; i++ {
		first := 31 + 27*i
		var all []int
		for k := first; k < first+27; k++ {
			if block[k] == 0 {
				continue
			}
			all = append(all, block[k])
			if need > first && k >= need {
				id, _ := r.v.Patch(leads(tables[2+i], k-first, 0, ino, t))
				r.lets(id, block[k])
			}
		}
		if need <= first && tables[2+i] != 0 {
			id, _ := r.v.Patch(leads(tables[1], i, 0, ino, t))
			r.lets(id, append(all, tables[2+i])...)
		}
	}
}

// drop is Drop by the words.
func (r *rig) drop(ino int, needs ...int) api.Errno {
	last := r.next() - 1
	x, e := r.opened(ino, slices.ContainsFunc(needs, func(n int) bool { return n < 1 || n > last }), false)
	if e != api.OK {
		return e
	}
	block, tables := r.where(x)
	id, _ := r.v.Patch(set(r.g, ino, 0, make([]byte, 18), needs...))
	f := vol.Free{After: []int{id}, Ino: ino}
	for k := range api.MaxBlocks {
		if block[k] != 0 {
			f.Blocks = append(f.Blocks, block[k])
		}
	}
	f.Blocks = append(f.Blocks, notNone(tables[:])...)
	r.v.Later(f)
	return api.OK
}

// notNone is those of l that are not 0.
func notNone(l []int) []int {
	return slices.DeleteFunc(slices.Clone(l), func(n int) bool { return n == 0 })
}

// step does one thing to the volume by the calls, and to the model by the words, and tells what both answer.
func step(d *dice, r, m *rig) (string, any, any) {
	list := func(l ...any) string { return fmt.Sprint(l...) }
	inos := 3 * r.g.Inodes * r.g.Groups
	ino := 1 + d.below(min(inos, 5))
	if d.below(30) == 0 {
		ino += []int{-ino, -2 * ino, inos}[d.below(3)]
	}
	switch n := d.below(18); n {
	case 0, 1, 2:
		off, n := d.place(), d.length()
		return fmt.Sprint("Read ", ino, off, n), list(file.Read(r.v, ino, off, n)), list(m.wantRead(ino, off, n))
	case 3:
		off, n := d.place(), []int{d.length(), 4096, 4097, -1}[d.below(4)]
		x, _ := r.opened(ino, false, false)
		return fmt.Sprint("Cost ", ino, off, n), file.Cost(r.v, x, off, n), m.count(x, off, n)
	case 4, 5, 6:
		n := d.place()
		return fmt.Sprint("Cut ", ino, n), file.Cut(r.v, ino, n), m.cut(ino, n)
	case 7:
		needs := []int{}
		for range d.below(4) {
			needs = append(needs, d.below(r.next()+d.below(2)))
		}
		return fmt.Sprint("Drop ", ino, needs), file.Drop(r.v, ino, needs...), m.drop(ino, needs...)
	case 8:
		return "Sync", r.v.Sync(), m.v.Sync()
	case 9:
		id := 1 + d.below(r.next())
		return fmt.Sprint("Settle ", id), r.v.Settle(id), m.v.Settle(id)
	case 10, 11:
		p := set(r.g, 1+d.below(min(inos, 5)), 0, bytesOf(api.Inode{Kind: 1}))
		if x := r.inode(p.Owner); x.Kind != 0 {
			return "nothing", 0, 0
		}
		return fmt.Sprint("made ", p.Owner), list(r.v.Patch(p)), list(m.v.Patch(p))
	}
	off, data := d.place(), d.bytes(d.length())
	return fmt.Sprint("Write ", ino, off, len(data)), file.Write(r.v, ino, off, data), m.write(ino, off, data)
}

// 21.1, 21.2: long runs on disks of several shapes, with inodes, places, numbers and needs that there are not, sectors of pointers that are wrong, and until there is no space: each answer, and all that is left, as the chapter's words tell it.
func TestAsTheWords(t *testing.T) {
	for seed := range 36 {
		dice := dice(seed + 1)
		g := []api.Geom{three, one, {Groups: 2, Inodes: 1, Data: 12}, {Groups: 4, Inodes: 2, Data: 4}}[seed%4]
		i := blank(g)
		if seed%3 == 0 {
			f := i.file(2, 64*70, 1, 3, 5, 31)
			i.l[f.tables[seed/3%3]] = wrong()[seed/3%len(wrong())]
		}
		held := []int{1, 3, api.MaxCache}[seed/4%3]
		r, m := fresh(t, held, i), fresh(t, held, i)
		var told []string
		for range 60 {
			what, got, want := step(&dice, r, m)
			told = append(told, what)
			r.same("the answer", got, want)
			r.same("what is left", r.state() == m.state(), true)
			if t.Failed() {
				t.Fatalf("seed %d: %q", seed, told)
			}
		}
	}
}

// log is the bytes of files, as they should be; which of their blocks there should be; and all bytes that a file ever had, by places.
type log struct {
	bytes map[int][]byte
	block map[int]map[int]bool
	ever  map[[2]int]map[byte]bool
}

// newLog is that of files without bytes.
func newLog(files int) *log {
	l := &log{bytes: map[int][]byte{}, block: map[int]map[int]bool{}, ever: map[[2]int]map[byte]bool{}}
	for ino := 1; ino <= files; ino++ {
		l.block[ino] = map[int]bool{}
	}
	return l
}

func (l *log) write(ino, off int, data []byte) {
	if n := off + len(data) - len(l.bytes[ino]); n > 0 && len(data) > 0 {
		l.bytes[ino] = append(l.bytes[ino], make([]byte, n)...)
	}
	for i, c := range data {
		l.bytes[ino][off+i] = c
		l.block[ino][(off+i)/64] = true
		at := [2]int{ino, off + i}
		if l.ever[at] == nil {
			l.ever[at] = map[byte]bool{}
		}
		l.ever[at][c] = true
	}
}

func (l *log) cut(ino, n int) {
	if more := n - len(l.bytes[ino]); more > 0 {
		l.bytes[ino] = append(l.bytes[ino], make([]byte, more)...)
		return
	}
	was := len(l.bytes[ino])
	l.bytes[ino] = slices.Clone(l.bytes[ino][:n])
	for k := range l.block[ino] {
		if n < was && k >= (n+63)/64 {
			delete(l.block[ino], k)
		}
	}
}

// sectors is how many the files have; those of pointers stay as long as the size may need what lies behind them.
func (l *log) sectors(r *rig) int {
	n := 0
	for ino := range l.block {
		_, tables := r.where(r.inode(ino))
		n += len(l.block[ino]) + len(notNone(tables[:]))
	}
	return n
}

// 21.3, 21.4: long runs of writes, cuts and drops, while patches settle or not, on disks on which there is room and on which there is none: what was written is read, all other bytes are as they were, with noughts where nothing was written and behind what was cut; Cost tells what is taken, and what goes comes free.
func TestWrittenAndCut(t *testing.T) {
	for seed := range 8 {
		dice := dice(seed + 900)
		g := []api.Geom{three, {Groups: 1, Inodes: 2, Data: 128}, {Groups: 4, Inodes: 1, Data: 31}, wide}[seed%4]
		r := fresh(t, []int{1, 5, api.MaxCache}[seed%3], blank(g))
		l := newLog(3)
		for range 120 {
			ino := 1 + dice.below(3)
			switch dice.below(8) {
			case 0:
				n := max(dice.place(), 0)
				if file.Cut(r.v, ino, n) == api.OK {
					l.cut(ino, n)
				}
			case 1:
				r.settles(1 + dice.below(r.next()))
			case 2:
				r.syncs()
				r.same("free", r.free(), g.Groups*g.Data-l.sectors(r))
			case 3:
				if dice.below(4) == 0 {
					r.drops(ino, api.OK)
					l.bytes[ino], l.block[ino] = nil, map[int]bool{}
					_, e := r.v.Patch(set(g, ino, 0, bytesOf(api.Inode{Kind: 1})))
					r.same("made", e, api.OK)
				}
			default:
				r.logged(l, ino, dice.place(), dice.bytes(dice.length()))
			}
			r.hold(l, &dice)
			if t.Failed() {
				t.Fatalf("seed %d", seed)
			}
		}
		r.syncs()
		for ino := range l.block {
			r.drops(ino, api.OK)
		}
		r.syncs()
		r.same("free in the end", r.free(), g.Groups*g.Data)
	}
}

// logged is a Write, OK or not as it should be.
func (r *rig) logged(l *log, ino, off int, data []byte) {
	r.t.Helper()
	free, cost := r.free(), file.Cost(r.v, r.inode(ino), off, len(data))
	want := api.OK
	switch {
	case off < 0:
		want = api.ErrArg
	case len(data) > 0 && off+len(data) > api.MaxSize:
		want = api.ErrBig
	case cost > free:
		want = api.ErrSpace
	}
	r.writes(ino, off, data, want)
	if want != api.OK {
		r.same("free", r.free(), free)
		return
	}
	l.write(ino, off, data)
	r.same("free", r.free(), free-cost)
}

// hold holds files against what they should be: their sizes, and some of their bytes.
func (r *rig) hold(l *log, d *dice) {
	r.t.Helper()
	for ino := range l.block {
		b := l.bytes[ino]
		r.same("size", r.inode(ino).Size, len(b))
		for range 6 {
			off, n := max(d.place(), 0), d.length()
			r.reads(ino, off, n, b[min(off, len(b)):min(off+n, len(b))], api.OK)
		}
		r.reads(ino, 0, 4096, b[:min(4096, len(b))], api.OK)
	}
}

// 21.1, 21.2: wherever the power goes while patches settle, and whatever waits on the disk comes about: each pointer that is there leads to a sector that is taken, and no two lead to the same one; and each byte of a file is 0, or one that the file had at that place.
func TestAnyCrash(t *testing.T) {
	for seed := range 6 {
		for units := 0; ; units++ {
			dice := dice(seed*7919 + 3)
			r := fresh(t, []int{2, 9}[seed%2], blank(three))
			l := newLog(3)
			r.deal(&dice, l, 12)
			r.s.Limit(units + 3*3) // the words need some
			e := r.v.Settle(1 + dice.below(r.next()-1))
			if e == api.OK {
				// Sectors that came free by then are taken anew.
				r.deal(&dice, l, 8)
				e = r.v.Settle(1 + dice.below(r.next()-1))
			}
			if e == api.OK {
				e = r.v.Sync()
			}
			keep := make([]int, r.d.Len())
			for i := range keep {
				keep[i] = (units + i*seed) % 3
			}
			r.d.Crash(keep)
			r.sound(l)
			if t.Failed() {
				t.Fatalf("seed %d, %d units", seed, units)
			}
			if e == api.OK {
				break
			}
		}
	}
}

// deal does some things to files, whatever they answer.
func (r *rig) deal(d *dice, l *log, times int) {
	for range times {
		ino, off, data := 1+d.below(3), max(d.place(), 0), d.bytes(d.below(300))
		switch d.below(4) {
		case 0:
			file.Cut(r.v, ino, off)
		case 1:
			if d.below(3) == 0 && file.Drop(r.v, ino) == api.OK {
				r.v.Patch(set(r.g, ino, 0, bytesOf(api.Inode{Kind: 1})))
			}
		default:
			if file.Write(r.v, ino, off, data) == api.OK {
				l.write(ino, off, data)
			}
		}
	}
}

// sound follows all pointers of a disk, as it is stable.
func (r *rig) sound(l *log) {
	r.t.Helper()
	d, _ := disk.New(r.d.Len(), nil)
	d.Load(r.d.Image())
	all, led := d.Image(), map[int]int{}
	follow := func(to int) {
		group, i := placeOf(three, to)
		p, _, _ := seal.Get(api.KindMaps, all[mapsAt(three, group)])
		led[to]++
		r.same("taken, and led to", fmt.Sprint(p[i/8]>>(i%8)&1, led[to]), "1 1")
	}
	pointers := func(to int) (l [27]int) {
		if to == 0 {
			return l
		}
		follow(to)
		p, _, e := seal.Get(api.KindPtrs, all[to])
		r.same("a sector of pointers", e, api.OK)
		for i := range l {
			l[i] = int(p[2*i]) + int(p[2*i+1])<<8
		}
		return l
	}
	for ino := 1; ino <= 3; ino++ {
		p, _, _ := seal.Get(api.KindInode, all[4])
		x := inodeOf(p[18*(ino-1) : 18*ino])
		single := pointers(int(x.Single))
		blocks := []int{int(x.Direct[0]), int(x.Direct[1]), int(x.Direct[2]), int(x.Direct[3])}
		blocks = append(blocks, single[:]...)
		for _, to := range pointers(int(x.Double)) {
			inner := pointers(to)
			blocks = append(blocks, inner[:]...)
		}
		for k, to := range blocks {
			if to == 0 {
				continue
			}
			follow(to)
			for i := range 64 {
				c := all[to][i]
				if at := 64*k + i; at < int(x.Size) && c != 0 && !l.ever[[2]int{ino, at}][c] {
					r.t.Errorf("inode %d, byte %d: %d", ino, at, c)
				}
			}
		}
	}
}
