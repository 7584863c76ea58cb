package cache_test

import (
	"math"
	"slices"
	"testing"

	"scupper/api"
	"scupper/cache"
	"scupper/disk"
	"scupper/power"
)

// maxCache is the document's number, written out, so that no shared slip of code and test hides.
const maxCache = 64

// told holds an error's number against the one that is asked for.
func told(t *testing.T, what string, got, want api.Errno) {
	t.Helper()
	if got != want {
		t.Errorf("%s: %d, want %d", what, got, want)
	}
}

// sectors holds a list of sectors against the one that is asked for.
func sectors(t *testing.T, what string, got []int, want ...int) {
	t.Helper()
	if !slices.Equal(got, want) {
		t.Errorf("%s: %v, want %v", what, got, want)
	}
}

// counted holds hits and misses against those that are asked for.
func counted(t *testing.T, what string, c *cache.Cache, hits, misses int) {
	t.Helper()
	if h, m := c.Counts(); h != hits || m != misses {
		t.Errorf("%s: %d hits, %d misses, want %d, %d", what, h, m, hits, misses)
	}
}

// block is one whose bytes all hang on n, so that a torn one is told; up to 65535 no two are alike, and that of 0 is noughts.
func block(n int) api.Block {
	var b api.Block
	for k := 0; k < len(b); k += 2 {
		b[k], b[k+1] = byte(n*(k+7)), byte((n>>8)*(k+7))
	}
	return b
}

// made is a disk of n sectors on a supply of its own, and a cache of it.
func made(t *testing.T, n, size int) (*cache.Cache, *disk.Disk, *power.Supply) {
	t.Helper()
	s := power.New()
	d, e := disk.New(n, s)
	told(t, "disk.New", e, api.OK)
	c, e := cache.New(d, size)
	if e != api.OK || c == nil {
		t.Fatalf("New(%d): %v, %d", size, c, e)
	}
	return c, d, s
}

// shows tells whether sector i of d shows the block of n.
func shows(t *testing.T, d *disk.Disk, i, n int) {
	t.Helper()
	if b, e := d.Read(i); e != api.OK || b != block(n) {
		t.Errorf("sector %d shows %v, %d, want block %d", i, b, e, n)
	}
}

// gets tells whether Get(i) is the block of n.
func gets(t *testing.T, c *cache.Cache, i, n int) {
	t.Helper()
	if b, e := c.Get(i); e != api.OK || b != block(n) {
		t.Errorf("Get(%d): %v, %d, want block %d", i, b, e, n)
	}
}

// puts puts the block of n at i.
func puts(t *testing.T, c *cache.Cache, i, n int) {
	t.Helper()
	told(t, "Put", c.Put(i, block(n)), api.OK)
}

// forces forces the block of n at i.
func forces(t *testing.T, c *cache.Cache, i, n int) {
	t.Helper()
	told(t, "Force", c.Force(i, block(n)), api.OK)
}

// refused tells whether a Get was refused with that error, and noughts.
func refused(t *testing.T, what string, c *cache.Cache, i int, want api.Errno) {
	t.Helper()
	if b, e := c.Get(i); e != want || b != (api.Block{}) {
		t.Errorf("%s: Get(%d): %v, %d, want noughts, %d", what, i, b, e, want)
	}
}

// 13.1: the chapter's example.
func TestExample(t *testing.T) {
	c, d, _ := made(t, 2, 1)
	puts(t, c, 0, 1)
	shows(t, d, 0, 0)
	gets(t, c, 1, 0)
	shows(t, d, 0, 1)
	sectors(t, "held", c.Held(), 1)
	sectors(t, "changed", c.Changed())
	if d.Waits(0) != 1 || d.Waits(1) != 0 || d.Writes() != 1 {
		t.Errorf("waits %d and %d, writes %d", d.Waits(0), d.Waits(1), d.Writes())
	}
}

// 13.1: which sizes a cache may have, and that it holds nothing at first.
func TestNewSizes(t *testing.T) {
	d, _ := disk.New(3, nil)
	for size := -300; size <= 300; size++ {
		checkNew(t, d, size)
	}
	for _, size := range []int{math.MinInt, math.MinInt + 1, math.MinInt32, math.MaxInt32, math.MaxInt - 1, math.MaxInt, 1 << 32, 1<<32 + 1, 1<<8 + 1, 1<<16 + 1} {
		checkNew(t, d, size)
	}
	if d.Writes() != 0 {
		t.Errorf("New wrote %d times", d.Writes())
	}
}

func checkNew(t *testing.T, d *disk.Disk, size int) {
	t.Helper()
	c, e := cache.New(d, size)
	if size < 1 || size > maxCache {
		if c != nil || e != api.ErrArg {
			t.Errorf("New(%d): %v, %d, want none, %d", size, c, e, api.ErrArg)
		}
		return
	}
	if c == nil || e != api.OK {
		t.Fatalf("New(%d): %v, %d", size, c, e)
	}
	sectors(t, "held", c.Held())
	sectors(t, "changed", c.Changed())
	counted(t, "new", c, 0, 0)
	told(t, "Sync of nothing", c.Sync(), api.OK)
}

// 13.1: a disk that is none is ErrArg here, whatever the size.
func TestNewWithoutDisk(t *testing.T) {
	for _, size := range []int{math.MinInt, -1, 0, 1, 2, maxCache, maxCache + 1, math.MaxInt} {
		if c, e := cache.New(nil, size); c != nil || e != api.ErrArg {
			t.Errorf("New(none, %d): %v, %d, want none, %d", size, c, e, api.ErrArg)
		}
	}
}

// 13.1: a new cache needs no power.
func TestNewWithoutPower(t *testing.T) {
	s := power.New()
	s.Limit(0)
	s.Use()
	d, _ := disk.New(2, s)
	c, e := cache.New(d, 1)
	told(t, "New", e, api.OK)
	gets(t, c, 1, 0)
	puts(t, c, 1, 3)
	gets(t, c, 1, 3)
}

// 13.1: Get of what is held, and of what is not.
func TestGet(t *testing.T) {
	c, d, s := made(t, 3, 2)
	told(t, "Write", d.Write(1, block(4)), api.OK)
	told(t, "Force", d.Force(2, block(5)), api.OK)
	gets(t, c, 1, 4)
	counted(t, "miss", c, 0, 1)
	gets(t, c, 1, 4)
	counted(t, "hit", c, 1, 1)
	gets(t, c, 2, 5)
	counted(t, "another miss", c, 1, 2)
	sectors(t, "held", c.Held(), 2, 1)
	sectors(t, "changed", c.Changed())
	gets(t, c, 0, 0)
	sectors(t, "held", c.Held(), 0, 2)
	if s.Used() != 2 || d.Writes() != 2 {
		t.Errorf("Get used power: %d, writes %d", s.Used(), d.Writes())
	}
}

// 13.1: what is held is told, also where the disk shows something else by now.
func TestGetHeld(t *testing.T) {
	c, d, _ := made(t, 2, 1)
	gets(t, c, 0, 0)
	told(t, "Write", d.Write(0, block(9)), api.OK)
	gets(t, c, 0, 0)
	gets(t, c, 1, 0)
	shows(t, d, 0, 9)
	gets(t, c, 0, 9)
}

// 13.1: Put holds, and writes nothing.
func TestPut(t *testing.T) {
	c, d, s := made(t, 3, 2)
	puts(t, c, 2, 1)
	counted(t, "miss", c, 0, 1)
	sectors(t, "changed", c.Changed(), 2)
	puts(t, c, 2, 2)
	counted(t, "hit", c, 1, 1)
	gets(t, c, 2, 2)
	gets(t, c, 0, 0)
	sectors(t, "held", c.Held(), 0, 2)
	puts(t, c, 0, 3)
	sectors(t, "changed", c.Changed(), 0, 2)
	gets(t, c, 0, 3)
	shows(t, d, 0, 0)
	shows(t, d, 2, 0)
	if s.Used() != 0 || d.Writes() != 0 {
		t.Errorf("Put used power: %d, writes %d", s.Used(), d.Writes())
	}
}

// 13.1: what is put is changed, also where the disk shows the same.
func TestPutSame(t *testing.T) {
	c, d, _ := made(t, 2, 2)
	puts(t, c, 0, 0)
	sectors(t, "changed", c.Changed(), 0)
	told(t, "Back", c.Back(0), api.OK)
	if d.Waits(0) != 1 {
		t.Errorf("%d wait, want 1", d.Waits(0))
	}
	puts(t, c, 0, 0)
	sectors(t, "changed again", c.Changed(), 0)
}

// 13.1: what is forced is stable at once, and not changed.
func TestForce(t *testing.T) {
	c, d, s := made(t, 3, 2)
	forces(t, c, 2, 1)
	counted(t, "miss", c, 0, 1)
	sectors(t, "changed", c.Changed())
	if d.Image()[2] != block(1) || d.Waits(2) != 0 {
		t.Errorf("not stable: %v", d.Image()[2])
	}
	puts(t, c, 2, 2)
	told(t, "Write", d.Write(2, block(7)), api.OK)
	forces(t, c, 2, 3)
	counted(t, "hits", c, 2, 1)
	sectors(t, "changed", c.Changed())
	gets(t, c, 2, 3)
	if d.Image()[2] != block(3) || d.Waits(2) != 0 {
		t.Errorf("not stable: %v", d.Image()[2])
	}
	told(t, "Back of what is forced", c.Back(2), api.OK)
	if s.Used() != 3 || d.Writes() != 3 {
		t.Errorf("used %d, writes %d, want 3, 3", s.Used(), d.Writes())
	}
}

// 13.1, 13.2: a sector that is put again behind Back, or behind Force, is changed again.
func TestChangedAgain(t *testing.T) {
	c, d, _ := made(t, 2, 2)
	puts(t, c, 0, 1)
	told(t, "Back", c.Back(0), api.OK)
	sectors(t, "behind Back", c.Changed())
	puts(t, c, 0, 2)
	sectors(t, "put again", c.Changed(), 0)
	shows(t, d, 0, 1)
	forces(t, c, 0, 3)
	sectors(t, "behind Force", c.Changed())
	puts(t, c, 0, 4)
	sectors(t, "put again", c.Changed(), 0)
	shows(t, d, 0, 3)
	gets(t, c, 0, 4)
	told(t, "Sync", c.Sync(), api.OK)
	shows(t, d, 0, 4)
}

// 13.1: sectors 0 and the last one, and those that the disk does not have, which change nothing.
func TestSectorsThatThereAreNot(t *testing.T) {
	wrong := []int{math.MinInt, math.MinInt + 1, math.MinInt32, -1 << 32, -256, -5, -1, 5, 6, 64, 255, 256, api.MaxSectors, 1 << 16, math.MaxInt32, 1 << 32, 1<<32 + 1, math.MaxInt - 1, math.MaxInt}
	c, d, s := made(t, 5, 2)
	puts(t, c, 4, 1)
	puts(t, c, 0, 2)
	for _, i := range wrong {
		refused(t, "wrong", c, i, api.ErrArg)
		told(t, "Put", c.Put(i, block(3)), api.ErrArg)
		told(t, "Force", c.Force(i, block(3)), api.ErrArg)
		told(t, "Pin", c.Pin(i), api.ErrNone)
		told(t, "Unpin", c.Unpin(i), api.ErrNone)
		told(t, "Back", c.Back(i), api.ErrNone)
	}
	sectors(t, "held", c.Held(), 0, 4)
	sectors(t, "changed", c.Changed(), 0, 4)
	counted(t, "wrong", c, 0, 2)
	if s.Used() != 0 || d.Writes() != 0 {
		t.Errorf("used %d, writes %d", s.Used(), d.Writes())
	}
	gets(t, c, 4, 1)
	gets(t, c, 0, 2)
}

// 13.1: ErrArg comes ahead of ErrFull, and of ErrDown.
func TestWhichErrorFirst(t *testing.T) {
	c, d, s := made(t, 3, 1)
	puts(t, c, 0, 1)
	told(t, "Limit", s.Limit(0), api.OK)
	for _, i := range []int{-1, 3} {
		refused(t, "changed, no power", c, i, api.ErrArg)
		told(t, "Put", c.Put(i, block(2)), api.ErrArg)
		told(t, "Force", c.Force(i, block(2)), api.ErrArg)
	}
	told(t, "Pin", c.Pin(0), api.OK)
	for _, i := range []int{-1, 3} {
		refused(t, "pinned", c, i, api.ErrArg)
		told(t, "Put", c.Put(i, block(2)), api.ErrArg)
		told(t, "Force", c.Force(i, block(2)), api.ErrArg)
	}
	refused(t, "pinned and no power", c, 1, api.ErrFull)
	told(t, "Put", c.Put(1, block(2)), api.ErrFull)
	told(t, "Force", c.Force(1, block(2)), api.ErrFull)
	if s.Gone() || d.Writes() != 0 {
		t.Error("a refused call reached the disk")
	}
	sectors(t, "held", c.Held(), 0)
	counted(t, "refused", c, 0, 1)
}

// 13.1: the sector that was used longest ago goes; each of Get, Put and Force is a use.
func TestWhichGoes(t *testing.T) {
	uses := map[string]func(c *cache.Cache){
		"Get":   func(c *cache.Cache) { gets(t, c, 0, 1) },
		"Put":   func(c *cache.Cache) { puts(t, c, 0, 1) },
		"Force": func(c *cache.Cache) { forces(t, c, 0, 1) },
	}
	for name, use := range uses {
		c, d, _ := made(t, 5, 3)
		puts(t, c, 0, 1)
		puts(t, c, 1, 2)
		puts(t, c, 2, 3)
		sectors(t, name+": held", c.Held(), 2, 1, 0)
		use(c)
		sectors(t, name+": used again", c.Held(), 0, 2, 1)
		use(c)
		sectors(t, name+": used twice", c.Held(), 0, 2, 1)
		gets(t, c, 3, 0)
		sectors(t, name+": 1 goes", c.Held(), 3, 0, 2)
		shows(t, d, 1, 2)
		shows(t, d, 2, 0)
		gets(t, c, 2, 3)
		gets(t, c, 4, 0)
		sectors(t, name+": 0 goes", c.Held(), 4, 2, 3)
		shows(t, d, 0, 1)
		shows(t, d, 2, 0)
	}
}

// 13.1: one from the midst is used: the others keep their order.
func TestOrderFromTheMidst(t *testing.T) {
	c, _, _ := made(t, 6, 5)
	for i := range 5 {
		gets(t, c, i, 0)
	}
	gets(t, c, 2, 0)
	sectors(t, "held", c.Held(), 2, 4, 3, 1, 0)
	gets(t, c, 0, 0)
	sectors(t, "held", c.Held(), 0, 2, 4, 3, 1)
	gets(t, c, 0, 0)
	sectors(t, "held", c.Held(), 0, 2, 4, 3, 1)
}

// 13.2: neither Pin, Unpin, Back nor Sync, nor what is told, is a use, a hit or a miss.
func TestNoUses(t *testing.T) {
	c, _, _ := made(t, 3, 2)
	puts(t, c, 0, 1)
	puts(t, c, 1, 2)
	told(t, "Pin", c.Pin(0), api.OK)
	told(t, "Unpin", c.Unpin(0), api.OK)
	told(t, "Back", c.Back(0), api.OK)
	told(t, "Back again", c.Back(0), api.OK)
	told(t, "Sync", c.Sync(), api.OK)
	c.Held()
	c.Changed()
	c.Counts()
	sectors(t, "held", c.Held(), 1, 0)
	counted(t, "no uses", c, 0, 2)
	gets(t, c, 2, 0)
	sectors(t, "held", c.Held(), 2, 1)
}

// 13.1: what goes is written if it is changed, and only then.
func TestGoesUnchanged(t *testing.T) {
	c, d, s := made(t, 4, 1)
	gets(t, c, 0, 0)
	forces(t, c, 1, 1)
	puts(t, c, 2, 2)
	told(t, "Back", c.Back(2), api.OK)
	if s.Used() != 2 || d.Writes() != 2 {
		t.Errorf("used %d, writes %d, want 2, 2", s.Used(), d.Writes())
	}
	gets(t, c, 3, 0)
	if s.Used() != 2 || d.Waits(2) != 1 {
		t.Errorf("what is not changed was written: used %d", s.Used())
	}
	puts(t, c, 3, 3)
	gets(t, c, 0, 0)
	if s.Used() != 3 || d.Waits(3) != 1 || d.Image()[3] != (api.Block{}) {
		t.Errorf("what is changed must wait: used %d, waits %d", s.Used(), d.Waits(3))
	}
}

// 13.1: a cache of 64 holds 64, and no more.
func TestGreatest(t *testing.T) {
	c, d, _ := made(t, api.MaxSectors, maxCache)
	for i := range maxCache {
		puts(t, c, api.MaxSectors-1-i, i+1)
	}
	if len(c.Held()) != maxCache || len(c.Changed()) != maxCache || d.Writes() != 0 {
		t.Fatalf("holds %d, changed %d, writes %d", len(c.Held()), len(c.Changed()), d.Writes())
	}
	if !slices.IsSorted(c.Held()) || !slices.IsSorted(c.Changed()) {
		t.Errorf("held %v, changed %v", c.Held(), c.Changed())
	}
	puts(t, c, 0, 99)
	if len(c.Held()) != maxCache || d.Writes() != 1 || c.Held()[0] != 0 {
		t.Errorf("holds %d, writes %d", len(c.Held()), d.Writes())
	}
	shows(t, d, api.MaxSectors-1, 1)
	counted(t, "full", c, 0, maxCache+1)
	told(t, "Sync", c.Sync(), api.OK)
	for i := range maxCache {
		shows(t, d, api.MaxSectors-1-i, i+1)
	}
	shows(t, d, 0, 99)
}

// 13.2: what is pinned does not go; pinned twice and unpinned once it does not either.
func TestPinned(t *testing.T) {
	c, _, _ := made(t, 5, 2)
	puts(t, c, 0, 1)
	puts(t, c, 1, 2)
	told(t, "Pin", c.Pin(0), api.OK)
	told(t, "Pin", c.Pin(0), api.OK)
	gets(t, c, 2, 0)
	sectors(t, "held", c.Held(), 2, 0)
	told(t, "Unpin", c.Unpin(0), api.OK)
	gets(t, c, 3, 0)
	sectors(t, "held", c.Held(), 3, 0)
	gets(t, c, 0, 1)
	puts(t, c, 0, 5)
	gets(t, c, 3, 0)
	gets(t, c, 4, 0)
	sectors(t, "held", c.Held(), 4, 0)
	told(t, "Unpin", c.Unpin(0), api.OK)
	gets(t, c, 1, 2)
	sectors(t, "held", c.Held(), 1, 4)
	told(t, "Unpin of what went", c.Unpin(0), api.ErrNone)
}

// 13.2: ErrNone of what is not held, and of what is not pinned; a Put, a Force or a Back unpins nothing.
func TestUnpin(t *testing.T) {
	c, _, _ := made(t, 3, 2)
	told(t, "Pin of what is not held", c.Pin(0), api.ErrNone)
	told(t, "Unpin of what is not held", c.Unpin(0), api.ErrNone)
	told(t, "Back of what is not held", c.Back(0), api.ErrNone)
	sectors(t, "held", c.Held())
	gets(t, c, 0, 0)
	told(t, "not pinned", c.Unpin(0), api.ErrNone)
	told(t, "Pin", c.Pin(0), api.OK)
	puts(t, c, 0, 1)
	forces(t, c, 0, 2)
	puts(t, c, 0, 3)
	told(t, "Back", c.Back(0), api.OK)
	told(t, "Sync", c.Sync(), api.OK)
	told(t, "Pin of another one", c.Pin(1), api.ErrNone)
	told(t, "Unpin", c.Unpin(0), api.OK)
	told(t, "once too often", c.Unpin(0), api.ErrNone)
	told(t, "and again", c.Unpin(0), api.ErrNone)
	told(t, "Pin behind it", c.Pin(0), api.OK)
	told(t, "Unpin behind it", c.Unpin(0), api.OK)
	told(t, "once too often", c.Unpin(0), api.ErrNone)
}

// 13.2: pins are of one sector, and as many as one likes.
func TestManyPins(t *testing.T) {
	const many = 1000
	c, _, _ := made(t, 3, 1)
	gets(t, c, 0, 0)
	for range many {
		told(t, "Pin", c.Pin(0), api.OK)
	}
	for range many {
		refused(t, "pinned", c, 1, api.ErrFull)
		told(t, "Unpin", c.Unpin(0), api.OK)
	}
	told(t, "once too often", c.Unpin(0), api.ErrNone)
	gets(t, c, 1, 0)
}

// 13.1: all are pinned: ErrFull, and nothing changes; what is held can be used all the same.
func TestAllPinned(t *testing.T) {
	c, d, s := made(t, 4, 2)
	puts(t, c, 0, 1)
	puts(t, c, 1, 2)
	told(t, "Pin", c.Pin(0), api.OK)
	told(t, "Pin", c.Pin(1), api.OK)
	refused(t, "all pinned", c, 3, api.ErrFull)
	told(t, "Put", c.Put(3, block(3)), api.ErrFull)
	told(t, "Force", c.Force(3, block(3)), api.ErrFull)
	sectors(t, "held", c.Held(), 1, 0)
	sectors(t, "changed", c.Changed(), 0, 1)
	counted(t, "refused", c, 0, 2)
	gets(t, c, 0, 1)
	puts(t, c, 1, 4)
	gets(t, c, 1, 4)
	counted(t, "hits", c, 3, 2)
	if d.Writes() != 0 || s.Used() != 0 {
		t.Errorf("writes %d, used %d", d.Writes(), s.Used())
	}
	told(t, "Unpin", c.Unpin(1), api.OK)
	gets(t, c, 3, 0)
	sectors(t, "the one that is not pinned went", c.Held(), 3, 0)
	shows(t, d, 1, 4)
	told(t, "new ones are not pinned", c.Unpin(3), api.ErrNone)
}

// 13.2: Back writes what is changed, once.
func TestBack(t *testing.T) {
	c, d, s := made(t, 3, 2)
	gets(t, c, 0, 0)
	told(t, "Back of what is not changed", c.Back(0), api.OK)
	if s.Used() != 0 {
		t.Errorf("it was written")
	}
	puts(t, c, 0, 1)
	puts(t, c, 1, 2)
	told(t, "Back", c.Back(0), api.OK)
	sectors(t, "changed", c.Changed(), 1)
	shows(t, d, 0, 1)
	shows(t, d, 1, 0)
	told(t, "Back again", c.Back(0), api.OK)
	if s.Used() != 1 || d.Waits(0) != 1 || d.Image()[0] != (api.Block{}) {
		t.Errorf("used %d, waits %d", s.Used(), d.Waits(0))
	}
	gets(t, c, 0, 1)
	sectors(t, "held", c.Held(), 0, 1)
}

// 13.2: Sync writes by rising sectors, whatever the order of use: where the power ends tells it.
func TestSyncRises(t *testing.T) {
	for units := range 5 {
		c, d, s := made(t, 9, 5)
		for _, i := range []int{7, 2, 8, 0} {
			puts(t, c, i, i+1)
		}
		gets(t, c, 4, 0)
		told(t, "Pin", c.Pin(8), api.OK)
		told(t, "Limit", s.Limit(units), api.OK)
		want := api.ErrDown
		if units == 4 {
			want = api.OK
		}
		told(t, "Sync", c.Sync(), want)
		rising := []int{0, 2, 7, 8}
		sectors(t, "changed", c.Changed(), rising[units:]...)
		sectors(t, "held", c.Held(), 4, 0, 8, 2, 7)
		for k, i := range rising {
			n := 0
			if k < units {
				n = i + 1
			}
			shows(t, d, i, n)
			if w := d.Waits(i); w != min(n, 1) {
				t.Errorf("%d wait at %d", w, i)
			}
		}
		if d.Writes() != units || s.Used() != units || s.Gone() != (units < 4) {
			t.Errorf("%d units: writes %d, used %d, gone %v", units, d.Writes(), s.Used(), s.Gone())
		}
		told(t, "Unpin", c.Unpin(8), api.OK)
		s.Restore()
		told(t, "Sync", c.Sync(), api.OK)
		sectors(t, "changed", c.Changed())
		if d.Writes() != 4 {
			t.Errorf("writes %d, want 4", d.Writes())
		}
	}
}

// 13.2: Drop: nothing is held, nothing is written, pins are gone, and what was counted stays.
func TestDrop(t *testing.T) {
	c, d, s := made(t, 4, 2)
	c.Drop()
	sectors(t, "held", c.Held())
	puts(t, c, 0, 1)
	forces(t, c, 1, 2)
	puts(t, c, 1, 3)
	told(t, "Pin", c.Pin(0), api.OK)
	told(t, "Pin", c.Pin(1), api.OK)
	told(t, "Limit", s.Limit(0), api.OK)
	c.Drop()
	sectors(t, "held", c.Held())
	sectors(t, "changed", c.Changed())
	counted(t, "dropped", c, 1, 2)
	told(t, "Sync", c.Sync(), api.OK)
	told(t, "Pin", c.Pin(0), api.ErrNone)
	told(t, "Unpin", c.Unpin(0), api.ErrNone)
	told(t, "Back", c.Back(0), api.ErrNone)
	gets(t, c, 0, 0)
	told(t, "not pinned", c.Unpin(0), api.ErrNone)
	gets(t, c, 1, 2)
	gets(t, c, 2, 0)
	gets(t, c, 3, 0)
	sectors(t, "held", c.Held(), 3, 2)
	counted(t, "misses again", c, 1, 6)
	if d.Writes() != 1 || s.Gone() {
		t.Errorf("writes %d, gone %v", d.Writes(), s.Gone())
	}
}

// 13.1: the power is gone as a changed sector must go: ErrDown, and nothing is done, whichever call it was.
func TestDownAsOneGoes(t *testing.T) {
	for _, gone := range []bool{false, true} {
		c, d, s := made(t, 3, 2)
		puts(t, c, 0, 1)
		puts(t, c, 1, 2)
		s.Limit(0)
		if gone {
			s.Use()
		}
		refused(t, "no power", c, 2, api.ErrDown)
		told(t, "Put", c.Put(2, block(3)), api.ErrDown)
		told(t, "Force", c.Force(2, block(3)), api.ErrDown)
		sectors(t, "held", c.Held(), 1, 0)
		sectors(t, "changed", c.Changed(), 0, 1)
		counted(t, "refused", c, 0, 2)
		for i := range 3 {
			shows(t, d, i, 0)
		}
		gets(t, c, 1, 2)
		gets(t, c, 0, 1)
		s.Restore()
		gets(t, c, 2, 0)
		sectors(t, "held", c.Held(), 2, 0)
		shows(t, d, 1, 2)
	}
}

// 13.1: no power is no error where nothing must be written.
func TestDownWithoutWriting(t *testing.T) {
	c, d, s := made(t, 5, 2)
	told(t, "Write", d.Write(4, block(6)), api.OK)
	gets(t, c, 0, 0)
	gets(t, c, 1, 0)
	s.Limit(0)
	s.Use()
	gets(t, c, 4, 6)
	puts(t, c, 3, 7)
	gets(t, c, 3, 7)
	puts(t, c, 4, 8)
	told(t, "Back", c.Back(4), api.ErrDown)
	told(t, "Sync", c.Sync(), api.ErrDown)
	sectors(t, "held", c.Held(), 4, 3)
	sectors(t, "changed", c.Changed(), 3, 4)
	shows(t, d, 3, 0)
	shows(t, d, 4, 6)
	gets(t, c, 4, 8)
	c.Drop()
	told(t, "Sync of nothing", c.Sync(), api.OK)
	gets(t, c, 4, 6)
	told(t, "Back of what is not changed", c.Back(4), api.OK)
}

// 13.1: Force without power of a sector that is held: it is held with its bytes, changed if it was.
func TestForceDownHeld(t *testing.T) {
	for _, changed := range []bool{false, true} {
		c, d, s := made(t, 3, 2)
		forces(t, c, 0, 1)
		if changed {
			puts(t, c, 0, 2)
		}
		told(t, "Pin", c.Pin(0), api.OK)
		s.Limit(0)
		told(t, "Force", c.Force(0, block(3)), api.ErrDown)
		sectors(t, "held", c.Held(), 0)
		shows(t, d, 0, 1)
		if changed {
			sectors(t, "changed", c.Changed(), 0)
			gets(t, c, 0, 2)
		} else {
			sectors(t, "changed", c.Changed())
			gets(t, c, 0, 1)
		}
		told(t, "Unpin", c.Unpin(0), api.OK)
		told(t, "once too often", c.Unpin(0), api.ErrNone)
		if d.Writes() != 1 {
			t.Errorf("writes %d", d.Writes())
		}
	}
}

// 13.1: Force without power of a sector that is not held: it is held with what the disk shows.
func TestForceDownNotHeld(t *testing.T) {
	c, d, s := made(t, 3, 2)
	told(t, "Write", d.Write(2, block(5)), api.OK)
	s.Limit(0)
	told(t, "Force", c.Force(2, block(6)), api.ErrDown)
	sectors(t, "held", c.Held(), 2)
	sectors(t, "changed", c.Changed())
	shows(t, d, 2, 5)
	gets(t, c, 2, 5)
	s.Restore()
	forces(t, c, 2, 6)
	gets(t, c, 2, 6)
	shows(t, d, 2, 6)
}

// 13.1: the power goes in the midst of a Force: what had to go was written, and went.
func TestForceDownInTheMidst(t *testing.T) {
	c, d, s := made(t, 3, 2)
	puts(t, c, 0, 1)
	puts(t, c, 1, 2)
	s.Limit(1)
	told(t, "Force", c.Force(2, block(3)), api.ErrDown)
	sectors(t, "held", c.Held(), 2, 1)
	sectors(t, "changed", c.Changed(), 1)
	shows(t, d, 0, 1)
	shows(t, d, 1, 0)
	shows(t, d, 2, 0)
	gets(t, c, 2, 0)
	gets(t, c, 1, 2)
	if s.Used() != 1 || !s.Gone() || d.Waits(0) != 1 {
		t.Errorf("used %d, gone %v, waits %d", s.Used(), s.Gone(), d.Waits(0))
	}
	s.Restore()
	s.Limit(2)
	puts(t, c, 2, 4)
	told(t, "Force with two units", c.Force(0, block(5)), api.OK)
	sectors(t, "held", c.Held(), 0, 2)
	shows(t, d, 1, 2)
	shows(t, d, 0, 5)
	if d.Waits(0) != 0 || d.Image()[0] != block(5) {
		t.Error("what is forced is not stable")
	}
}

// 13.2: Back without power leaves it changed.
func TestBackDown(t *testing.T) {
	c, d, s := made(t, 2, 2)
	puts(t, c, 0, 1)
	gets(t, c, 1, 0)
	s.Limit(0)
	told(t, "Back of what is not changed", c.Back(1), api.OK)
	told(t, "Back", c.Back(0), api.ErrDown)
	sectors(t, "changed", c.Changed(), 0)
	sectors(t, "held", c.Held(), 1, 0)
	shows(t, d, 0, 0)
	gets(t, c, 0, 1)
	s.Restore()
	told(t, "Back", c.Back(0), api.OK)
	sectors(t, "changed", c.Changed())
	shows(t, d, 0, 1)
}

// Rule 2: a cache that is none.
func TestNone(t *testing.T) {
	var c *cache.Cache
	for _, i := range []int{math.MinInt, -1, 0, 1, maxCache, math.MaxInt} {
		refused(t, "none", c, i, api.ErrNil)
		told(t, "Put", c.Put(i, block(1)), api.ErrNil)
		told(t, "Force", c.Force(i, block(1)), api.ErrNil)
		told(t, "Pin", c.Pin(i), api.ErrNil)
		told(t, "Unpin", c.Unpin(i), api.ErrNil)
		told(t, "Back", c.Back(i), api.ErrNil)
	}
	told(t, "Sync", c.Sync(), api.ErrNil)
	c.Drop()
	sectors(t, "held", c.Held())
	sectors(t, "changed", c.Changed())
	counted(t, "none", c, 0, 0)
}

// Rule 4: what is told is the caller's own.
func TestOwnMemory(t *testing.T) {
	c, d, _ := made(t, 4, 3)
	puts(t, c, 2, 1)
	puts(t, c, 0, 2)
	held, changed := c.Held(), c.Changed()
	held[0], held[1], changed[0], changed[1] = 9, 9, 9, 9
	held = append(held, 7)
	sectors(t, "held", c.Held(), 0, 2)
	sectors(t, "changed", c.Changed(), 0, 2)
	held = c.Held()
	gets(t, c, 2, 1)
	gets(t, c, 3, 0)
	gets(t, c, 1, 0)
	sectors(t, "a list of before", held, 0, 2)
	b, _ := c.Get(2)
	b[5] ^= 1
	gets(t, c, 2, 1)
	b = block(4)
	c.Put(2, b)
	b[0] ^= 1
	gets(t, c, 2, 4)
	told(t, "Sync", c.Sync(), api.OK)
	shows(t, d, 2, 4)
}

// 13.1: two caches of one disk, or of two, have nothing in common but the disk.
func TestTwoCaches(t *testing.T) {
	c, d, _ := made(t, 3, 2)
	o, e := cache.New(d, 1)
	told(t, "New", e, api.OK)
	puts(t, c, 0, 1)
	sectors(t, "the other holds", o.Held())
	gets(t, o, 0, 0)
	told(t, "Sync", c.Sync(), api.OK)
	gets(t, o, 0, 0)
	o.Drop()
	gets(t, o, 0, 1)
	sectors(t, "held", c.Held(), 0)
	counted(t, "the other", o, 1, 2)
	counted(t, "the one", c, 0, 1)
}
