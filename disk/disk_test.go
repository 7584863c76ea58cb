package disk_test

import (
	"math"
	"slices"
	"testing"

	"scupper/api"
	"scupper/disk"
	"scupper/power"
)

// told holds an error's number against the one that is asked for.
func told(t *testing.T, what string, got, want api.Errno) {
	t.Helper()
	if got != want {
		t.Errorf("%s: %d, want %d", what, got, want)
	}
}

// number holds a number against the one that is asked for.
func number(t *testing.T, what string, got, want int) {
	t.Helper()
	if got != want {
		t.Errorf("%s: %d, want %d", what, got, want)
	}
}

// block is one whose bytes all hang on n, so that a torn one is told.
func block(n int) api.Block {
	var b api.Block
	for k := range b {
		b[k] = byte(n*7 + k*n)
	}
	return b
}

// blocks are the blocks of these numbers; 0 is noughts.
func blocks(ns ...int) []api.Block {
	l := []api.Block{}
	for _, n := range ns {
		l = append(l, block(n))
	}
	return l
}

// made is a new disk.
func made(t *testing.T, n int, p *power.Supply) *disk.Disk {
	t.Helper()
	d, e := disk.New(n, p)
	if e != api.OK || d == nil {
		t.Fatalf("New(%d): %v, %d", n, d, e)
	}
	return d
}

// write lets the blocks of these numbers wait at i.
func write(t *testing.T, d *disk.Disk, i int, ns ...int) {
	t.Helper()
	for _, n := range ns {
		told(t, "write", d.Write(i, block(n)), api.OK)
	}
}

// shown is what each sector shows.
func shown(t *testing.T, d *disk.Disk) []api.Block {
	t.Helper()
	l := []api.Block{}
	for i := range d.Len() {
		b, e := d.Read(i)
		told(t, "read", e, api.OK)
		l = append(l, b)
	}
	return l
}

// waits is how many blocks wait at each sector.
func waits(d *disk.Disk) []int {
	l := []int{}
	for i := range d.Len() {
		l = append(l, d.Waits(i))
	}
	return l
}

// stands holds what a disk shows, what is stable, and how many wait, against what is asked for.
func stands(t *testing.T, what string, d *disk.Disk, show, stable []api.Block, wait []int) {
	t.Helper()
	if l := shown(t, d); !slices.Equal(l, show) {
		t.Errorf("%s: shows %v, want %v", what, l, show)
	}
	if l := d.Image(); !slices.Equal(l, stable) {
		t.Errorf("%s: image %v, want %v", what, l, stable)
	}
	if l := waits(d); !slices.Equal(l, wait) {
		t.Errorf("%s: %v wait, want %v", what, l, wait)
	}
}

// 4.1: a disk has from 1 to MaxSectors sectors, of noughts at first, at which nothing waits.
func TestNewHasNoughts(t *testing.T) {
	for _, n := range []int{1, 2, 3, api.MaxSectors - 1, api.MaxSectors} {
		for _, p := range []*power.Supply{nil, power.New()} {
			d := made(t, n, p)
			number(t, "Len", d.Len(), n)
			number(t, "Writes", d.Writes(), 0)
			stands(t, "new", d, make([]api.Block, n), make([]api.Block, n), make([]int, n))
			number(t, "used", p.Used(), 0)
		}
	}
}

// 4.1, wrong inputs: with any other number of sectors there is no disk.
func TestNewOfNoSuchLength(t *testing.T) {
	for _, n := range []int{0, -1, api.MaxSectors + 1, math.MaxInt, math.MinInt} {
		d, e := disk.New(n, power.New())
		told(t, "New", e, api.ErrArg)
		if d != nil {
			t.Errorf("New(%d) made a disk", n)
		}
	}
}

// 4.1: each disk has sectors of its own.
func TestNewIsItsOwn(t *testing.T) {
	a, b := made(t, 2, nil), made(t, 2, nil)
	write(t, a, 0, 1)
	told(t, "force", a.Force(1, block(2)), api.OK)
	stands(t, "the other one", b, blocks(0, 0), blocks(0, 0), []int{0, 0})
	number(t, "its Writes", b.Writes(), 0)
}

// 4.1: what is written waits behind all, and is shown at once; what is stable stays.
func TestWriteWaits(t *testing.T) {
	d := made(t, 3, nil)
	told(t, "load", d.Load(blocks(7, 8, 9)), api.OK)
	write(t, d, 0, 1)
	stands(t, "one", d, blocks(1, 8, 9), blocks(7, 8, 9), []int{1, 0, 0})
	write(t, d, 0, 2)
	write(t, d, 2, 3, 3, 3)
	stands(t, "several", d, blocks(2, 8, 3), blocks(7, 8, 9), []int{2, 0, 3})
	write(t, d, 2, 0)
	stands(t, "noughts", d, blocks(2, 8, 0), blocks(7, 8, 9), []int{2, 0, 4})
	number(t, "Writes", d.Writes(), 6)
}

// 4.1: what is forced is stable at once, and nothing waits there; other sectors are as they were.
func TestForceIsStable(t *testing.T) {
	d := made(t, 3, nil)
	write(t, d, 0, 1, 2)
	write(t, d, 1, 3)
	told(t, "force", d.Force(0, block(4)), api.OK)
	stands(t, "forced past others", d, blocks(4, 3, 0), blocks(4, 0, 0), []int{0, 1, 0})
	told(t, "force", d.Force(2, block(5)), api.OK)
	stands(t, "forced where none waits", d, blocks(4, 3, 5), blocks(4, 0, 5), []int{0, 1, 0})
	told(t, "force", d.Force(2, block(0)), api.OK)
	stands(t, "noughts forced", d, blocks(4, 3, 0), blocks(4, 0, 0), []int{0, 1, 0})
	write(t, d, 0, 6)
	d.Crash(nil)
	stands(t, "behind a crash", d, blocks(4, 0, 0), blocks(4, 0, 0), []int{0, 0, 0})
	number(t, "Writes", d.Writes(), 7)
}

// 4.1: a flush makes stable what each sector shows, be it noughts, and nothing waits.
func TestFlushIsStable(t *testing.T) {
	d := made(t, 4, nil)
	told(t, "load", d.Load(blocks(5, 6, 7, 8)), api.OK)
	write(t, d, 0, 1, 2)
	write(t, d, 1, 3, 0)
	write(t, d, 3, 4)
	told(t, "flush", d.Flush(), api.OK)
	stands(t, "flushed", d, blocks(2, 0, 7, 4), blocks(2, 0, 7, 4), []int{0, 0, 0, 0})
	told(t, "flush of nothing", d.Flush(), api.OK)
	stands(t, "flushed again", d, blocks(2, 0, 7, 4), blocks(2, 0, 7, 4), []int{0, 0, 0, 0})
	number(t, "Writes", d.Writes(), 5)
}

// 4.1, edges: the first sector and the last one are sectors; those below and behind are none, at any number of sectors.
func TestSectorsThatThereAre(t *testing.T) {
	for _, n := range []int{1, 5, api.MaxSectors} {
		p := power.New()
		d := made(t, n, p)
		for _, i := range []int{0, n - 1} {
			write(t, d, i, 1)
			told(t, "force", d.Force(i, block(2)), api.OK)
			b, e := d.Read(i)
			told(t, "read", e, api.OK)
			if b != block(2) || d.Image()[i] != b {
				t.Errorf("sector %d of %d: %v", i, n, b)
			}
		}
		l, used := shown(t, d), p.Used()
		for _, i := range []int{-1, n, n + 1, math.MaxInt, math.MinInt} {
			told(t, "write", d.Write(i, block(3)), api.ErrArg)
			told(t, "force", d.Force(i, block(3)), api.ErrArg)
			b, e := d.Read(i)
			told(t, "read", e, api.ErrArg)
			if b != (api.Block{}) {
				t.Errorf("no sector %d of %d: %v", i, n, b)
			}
			number(t, "waits at none", d.Waits(i), 0)
		}
		stands(t, "behind what was refused", d, l, l, make([]int, n))
		number(t, "Writes", d.Writes(), 4)
		number(t, "used", p.Used(), used)
	}
}

// 4.1: Write, Force and Flush use one unit each, all else none.
func TestPowerThatIsUsed(t *testing.T) {
	p := power.New()
	d := made(t, 2, p)
	steps := []struct {
		what string
		do   func()
		uses int
	}{
		{"Len", func() { d.Len() }, 0},
		{"Read", func() { d.Read(0) }, 0},
		{"Write", func() { d.Write(0, block(1)) }, 1},
		{"Write, again", func() { d.Write(0, block(2)) }, 1},
		{"Waits", func() { d.Waits(0) }, 0},
		{"Crash", func() { d.Crash([]int{1}) }, 0},
		{"Force", func() { d.Force(1, block(3)) }, 1},
		{"Flush of nothing", func() { d.Flush() }, 1},
		{"Image", func() { d.Image() }, 0},
		{"Load", func() { d.Load(blocks(4, 5)) }, 0},
		{"Load of too few", func() { d.Load(nil) }, 0},
		{"Writes", func() { d.Writes() }, 0},
		{"Write at none", func() { d.Write(2, block(6)) }, 0},
		{"Force at none", func() { d.Force(-1, block(6)) }, 0},
	}
	for _, s := range steps {
		used := p.Used()
		s.do()
		number(t, s.what+": units", p.Used()-used, s.uses)
	}
}

// 4.1, an edge: the power may go at each command; what finds none does nothing, and what needs none goes on.
func TestPowerGoesAtEach(t *testing.T) {
	commands := []func(d *disk.Disk) api.Errno{
		func(d *disk.Disk) api.Errno { return d.Write(0, block(1)) },
		func(d *disk.Disk) api.Errno { return d.Force(0, block(2)) },
		func(d *disk.Disk) api.Errno { return d.Write(1, block(3)) },
		func(d *disk.Disk) api.Errno { return d.Write(1, block(4)) },
		func(d *disk.Disk) api.Errno { return d.Flush() },
		func(d *disk.Disk) api.Errno { return d.Write(0, block(5)) },
		func(d *disk.Disk) api.Errno { return d.Force(1, block(6)) },
	}
	behind := []struct {
		show, stable []api.Block
		wait         []int
		writes       int
	}{
		{blocks(0, 0), blocks(0, 0), []int{0, 0}, 0},
		{blocks(1, 0), blocks(0, 0), []int{1, 0}, 1},
		{blocks(2, 0), blocks(2, 0), []int{0, 0}, 2},
		{blocks(2, 3), blocks(2, 0), []int{0, 1}, 3},
		{blocks(2, 4), blocks(2, 0), []int{0, 2}, 4},
		{blocks(2, 4), blocks(2, 4), []int{0, 0}, 4},
		{blocks(5, 4), blocks(2, 4), []int{1, 0}, 5},
		{blocks(5, 6), blocks(2, 6), []int{1, 0}, 6},
	}
	for n := range len(commands) + 1 {
		p := power.New()
		d := made(t, 2, p)
		told(t, "limit", p.Limit(n), api.OK)
		for k, c := range commands {
			want := api.OK
			if k >= n {
				want = api.ErrDown
			}
			told(t, "command", c(d), want)
		}
		stands(t, "behind the power's going", d, behind[n].show, behind[n].stable, behind[n].wait)
		number(t, "Writes", d.Writes(), behind[n].writes)
		told(t, "a write where there is no sector", d.Write(2, block(1)), api.ErrArg)
		told(t, "a force where there is no sector", d.Force(-1, block(1)), api.ErrArg)
		d.Crash([]int{1, 9})
		told(t, "a load without power", d.Load(blocks(8, 9)), api.OK)
		stands(t, "loaded", d, blocks(8, 9), blocks(8, 9), []int{0, 0})
		p.Restore()
		told(t, "a write with power again", d.Write(0, block(1)), api.OK)
	}
}

// 4.1, an edge: two disks may have one supply; then each takes from what is left for both.
func TestPowerThatIsShared(t *testing.T) {
	p := power.New()
	a, b := made(t, 1, p), made(t, 1, p)
	told(t, "limit", p.Limit(2), api.OK)
	write(t, a, 0, 1)
	write(t, b, 0, 2)
	told(t, "write of a", a.Write(0, block(3)), api.ErrDown)
	told(t, "flush of b", b.Flush(), api.ErrDown)
	stands(t, "a", a, blocks(1), blocks(0), []int{1})
	stands(t, "b", b, blocks(2), blocks(0), []int{1})
}

// 4.1, an edge: without a supply there is power without an end.
func TestPowerWithoutSupply(t *testing.T) {
	d := made(t, 1, nil)
	for range 3000 {
		told(t, "write", d.Write(0, block(1)), api.OK)
	}
	number(t, "waits", d.Waits(0), 3000)
	told(t, "flush", d.Flush(), api.OK)
	told(t, "force", d.Force(0, block(2)), api.OK)
	number(t, "Writes", d.Writes(), 3001)
}

// 4.2, the chapter's example.
func TestCrashOfOne(t *testing.T) {
	d := made(t, 1, nil)
	write(t, d, 0, 1, 2)
	d.Crash([]int{1})
	stands(t, "crashed", d, blocks(1), blocks(1), []int{0})
}

// 4.2: of each sector the first so many blocks come about; as many as there are, if there are fewer; none, if below 0.
func TestCrashKeepsTheFirst(t *testing.T) {
	for _, c := range []struct{ keep, want int }{
		{math.MinInt, 9}, {-1, 9}, {0, 9}, {1, 1}, {2, 2}, {3, 0}, {4, 4}, {5, 4}, {math.MaxInt, 4},
	} {
		d := made(t, 3, nil)
		told(t, "load", d.Load(blocks(8, 9, 10)), api.OK)
		write(t, d, 1, 1, 2, 0, 4)
		d.Crash([]int{c.keep, c.keep, c.keep})
		want := blocks(8, c.want, 10)
		stands(t, "crashed", d, want, want, []int{0, 0, 0})
		d.Crash([]int{9, 9, 9})
		stands(t, "crashed again", d, want, want, []int{0, 0, 0})
		number(t, "Writes", d.Writes(), 4)
	}
}

// 4.2: each sector has its own number; where keep says nothing of one, none; what it says of no sector means nothing.
func TestCrashByEachSector(t *testing.T) {
	for _, c := range []struct {
		keep []int
		want []api.Block
	}{
		{nil, blocks(7, 8, 9)},
		{[]int{}, blocks(7, 8, 9)},
		{[]int{2}, blocks(2, 8, 9)},
		{[]int{0, 1}, blocks(7, 3, 9)},
		{[]int{1, 2, 0}, blocks(1, 4, 9)},
		{[]int{-1, 0, 2}, blocks(7, 8, 6)},
		{[]int{2, 1, 1}, blocks(2, 3, 5)},
		{[]int{2, 1, 1, 5, -3, 9}, blocks(2, 3, 5)},
	} {
		d := made(t, 3, nil)
		told(t, "load", d.Load(blocks(7, 8, 9)), api.OK)
		write(t, d, 0, 1)
		write(t, d, 1, 3)
		write(t, d, 2, 5, 6)
		write(t, d, 1, 4)
		write(t, d, 0, 2)
		keep := slices.Clone(c.keep)
		d.Crash(keep)
		stands(t, "crashed", d, c.want, c.want, []int{0, 0, 0})
		if !slices.Equal(keep, c.keep) {
			t.Errorf("Crash made %v of %v", keep, c.keep)
		}
		number(t, "Len", d.Len(), 3)
	}
}

// 4.2: what a crash lost stays lost, and what is written behind it waits as at first.
func TestCrashThenWrite(t *testing.T) {
	d := made(t, 2, nil)
	write(t, d, 0, 1, 2, 3)
	d.Crash([]int{2})
	write(t, d, 0, 4)
	stands(t, "written", d, blocks(4, 0), blocks(2, 0), []int{1, 0})
	d.Crash([]int{0})
	stands(t, "crashed", d, blocks(2, 0), blocks(2, 0), []int{0, 0})
	number(t, "Writes", d.Writes(), 4)
}

// 4.2: what is loaded is stable, sector by sector, nothing waits, and it is no write.
func TestLoadIsStable(t *testing.T) {
	d := made(t, 3, nil)
	write(t, d, 0, 1)
	told(t, "force", d.Force(1, block(2)), api.OK)
	write(t, d, 2, 3, 4)
	l := blocks(5, 0, 7)
	told(t, "load", d.Load(l), api.OK)
	stands(t, "loaded", d, l, l, []int{0, 0, 0})
	d.Crash([]int{9, 9, 9})
	stands(t, "behind a crash", d, l, l, []int{0, 0, 0})
	number(t, "Writes", d.Writes(), 4)
	told(t, "load of its image", d.Load(d.Image()), api.OK)
	stands(t, "loaded with its image", d, l, l, []int{0, 0, 0})
}

// 4.2, wrong inputs: too few blocks or too many are refused, and nothing of them is there.
func TestLoadOfNoSuchLength(t *testing.T) {
	d := made(t, 3, nil)
	told(t, "force", d.Force(0, block(1)), api.OK)
	write(t, d, 1, 2, 3)
	for _, l := range [][]api.Block{nil, {}, blocks(7), blocks(7, 8), blocks(7, 8, 9, 10), make([]api.Block, api.MaxSectors)} {
		told(t, "load", d.Load(l), api.ErrArg)
		stands(t, "refused", d, blocks(1, 3, 0), blocks(1, 0, 0), []int{0, 2, 0})
	}
	number(t, "Writes", d.Writes(), 3)
}

// 4.2: what is handed in is neither changed nor kept, and what is handed out is the caller's own.
func TestNothingIsShared(t *testing.T) {
	d := made(t, 2, nil)
	l := blocks(1, 2)
	told(t, "load", d.Load(l), api.OK)
	if !slices.Equal(l, blocks(1, 2)) {
		t.Errorf("Load made %v", l)
	}
	l[0] = block(9)
	m := d.Image()
	m[1][0]++
	b, _ := d.Read(0)
	b[3]++
	w := block(3)
	told(t, "write", d.Write(0, w), api.OK)
	w[0]++
	stands(t, "behind all that", d, blocks(3, 2), blocks(1, 2), []int{1, 0})
	m = d.Image()
	told(t, "force", d.Force(0, block(4)), api.OK)
	if !slices.Equal(m, blocks(1, 2)) {
		t.Errorf("an image became %v", m)
	}
}

// 4.2: Writes counts those Writes and Forces that were OK, through all else that befalls a disk.
func TestWritesAreCounted(t *testing.T) {
	p := power.New()
	d := made(t, 2, p)
	write(t, d, 0, 1, 1)
	told(t, "force", d.Force(0, block(1)), api.OK)
	d.Write(2, block(1))
	d.Force(-1, block(1))
	number(t, "three", d.Writes(), 3)
	d.Flush()
	d.Crash([]int{1, 1})
	d.Load(blocks(1, 2))
	number(t, "three still", d.Writes(), 3)
	p.Limit(0)
	d.Write(0, block(1))
	d.Force(0, block(1))
	number(t, "three without power", d.Writes(), 3)
	p.Restore()
	write(t, d, 1, 1)
	number(t, "four", d.Writes(), 4)
}

// keeps are all lists of n numbers below m.
func keeps(n, m int) [][]int {
	if n == 0 {
		return [][]int{{}}
	}
	all := [][]int{}
	for _, l := range keeps(n-1, m) {
		for k := range m {
			all = append(all, append(slices.Clone(l), k))
		}
	}
	return all
}

// 4.3: what was shown when a Flush was OK is shown behind any crash, where nothing was written since.
func TestFlushedIsKept(t *testing.T) {
	for _, keep := range append(keeps(3, 4), nil, []int{-1, -1, -1}, []int{99, 99, 99, 99}) {
		d := made(t, 3, nil)
		told(t, "load", d.Load(blocks(7, 8, 9)), api.OK)
		write(t, d, 0, 1, 2)
		write(t, d, 1, 3, 4, 0)
		told(t, "flush", d.Flush(), api.OK)
		was := shown(t, d)
		write(t, d, 2, 5, 6)
		d.Crash(keep)
		if l := shown(t, d); !slices.Equal(l[:2], was[:2]) {
			t.Errorf("keep %v: %v, want %v", keep, l[:2], was[:2])
		}
		d.Crash(keep)
		if l := d.Image(); !slices.Equal(l[:2], was[:2]) {
			t.Errorf("keep %v, twice: %v, want %v", keep, l[:2], was[:2])
		}
	}
}

// 4.3: a Flush that was ErrDown keeps nothing: what waited may still be lost.
func TestFlushWithoutPowerKeepsNone(t *testing.T) {
	p := power.New()
	d := made(t, 2, p)
	told(t, "limit", p.Limit(2), api.OK)
	write(t, d, 0, 1, 2)
	told(t, "flush", d.Flush(), api.ErrDown)
	stands(t, "not flushed", d, blocks(2, 0), blocks(0, 0), []int{2, 0})
	d.Crash(nil)
	stands(t, "crashed", d, blocks(0, 0), blocks(0, 0), []int{0, 0})
}

// 4.4: behind a crash a sector shows what was stable, or a block that waited, whatever is kept of the others.
func TestCrashShowsOneOfThese(t *testing.T) {
	for _, keep := range append(keeps(3, 5), nil, []int{-1, 7, -9}) {
		d := made(t, 3, nil)
		told(t, "load", d.Load(blocks(10, 0, 30)), api.OK)
		write(t, d, 0, 11, 12, 13)
		write(t, d, 1, 21)
		could := [][]api.Block{blocks(10, 11, 12, 13), blocks(0, 21), blocks(30)}
		d.Crash(keep)
		stable := d.Image()
		for i, b := range shown(t, d) {
			if !slices.Contains(could[i], b) || stable[i] != b {
				t.Errorf("keep %v: sector %d shows %v, stable is %v", keep, i, b, stable[i])
			}
			number(t, "waits", d.Waits(i), 0)
		}
	}
}

// P1, rule 2: of a disk that is none every call answers ErrNil, ahead of all else, or its zero value.
func TestNone(t *testing.T) {
	var d *disk.Disk
	for _, i := range []int{-1, 0, 1} {
		b, e := d.Read(i)
		told(t, "read", e, api.ErrNil)
		if b != (api.Block{}) {
			t.Errorf("read of none: %v", b)
		}
		told(t, "write", d.Write(i, block(1)), api.ErrNil)
		told(t, "force", d.Force(i, block(1)), api.ErrNil)
		number(t, "waits", d.Waits(i), 0)
	}
	told(t, "flush", d.Flush(), api.ErrNil)
	told(t, "load of none", d.Load(nil), api.ErrNil)
	told(t, "load of one", d.Load(blocks(1)), api.ErrNil)
	d.Crash(nil)
	d.Crash([]int{1, 2})
	number(t, "Len", d.Len(), 0)
	number(t, "Writes", d.Writes(), 0)
	if l := d.Image(); len(l) != 0 {
		t.Errorf("image of none: %v", l)
	}
}
