package scan_test

import (
	"math"
	"slices"
	"testing"

	"scupper/api"
	"scupper/scan"
)

// noImage holds that New tells ErrSuper, and nothing else.
func noImage(t *testing.T, what string, l []api.Block) {
	t.Helper()
	for _, scope := range []uint32{0, 1, every} {
		if x, e := scan.New(l, scope); x != nil || e != api.ErrSuper {
			t.Errorf("%s: %v, error %d, want none, error 22", what, x, e)
		}
	}
}

// 27.1: New tells ErrSuper of sectors without a shape (the chapter's example is that of noughts).
func TestNoShape(t *testing.T) {
	noImage(t, "no list", nil)
	noImage(t, "no sectors", []api.Block{})
	noImage(t, "noughts", make([]api.Block, 16))
	noImage(t, "as many noughts as there may be", make([]api.Block, 2048))
	for _, g := range shapes() {
		l := fresh(g)
		noImage(t, "one sector", l[:1])
		noImage(t, "two sectors", l[:2])
		noImage(t, "a sector fewer", l[:len(l)-1])
		noImage(t, "a sector more", append(slices.Clone(l), api.Block{}))
		noImage(t, "no first two", l[2:])
		noImage(t, "both damaged", with(with(l, 0, turned(l[0], 4, 1)), 1, turned(l[1], 63, 128)))
		noImage(t, "both of another kind", with(with(l, 0, sealed(kindHead, 1, shapeLoad(g))), 1, sealed(kindDir, 1, shapeLoad(g))))
		other := sealed(kindSuper, 1, shapeLoad(shape(g.Groups, g.Inodes, g.Data^1)))
		noImage(t, "both of a shape of another size", with(with(l, 0, other), 1, other))
	}
}

// 27.1: the shape is that of the first one of both sectors that has one.
func TestGeom(t *testing.T) {
	for _, g := range shapes() {
		l := fresh(g)
		for what, l := range map[string][]api.Block{
			"both":            l,
			"the first alone": with(l, 1, api.Block{}),
			"the second":      with(l, 0, turned(l[0], 10, 1)),
		} {
			for _, scope := range []uint32{0, 1, every} {
				x := image(t, l, scope)
				if x.Geom() != g {
					t.Errorf("%s: %v, want %v", what, x.Geom(), g)
				}
				is(t, what, x, l, nil, 0)
			}
		}
	}
	a, b := shape(1, 1, 5), shape(1, 2, 4) // both have 10 sectors
	l := with(fresh(a), 1, sealed(kindSuper, 9, shapeLoad(b)))
	if x := image(t, l, 0); x.Geom() != a {
		t.Errorf("two shapes: %v, want %v", x.Geom(), a)
	}
	if x := image(t, with(l, 0, api.Block{}), 0); x.Geom() != b {
		t.Errorf("the second shape: %v, want %v", x.Geom(), b)
	}
}

// 27.1: groups are in the scope bit by bit, from the lowest on; of no group none is.
func TestIn(t *testing.T) {
	for _, g := range shapes() {
		l := fresh(g)
		for scope := range uint32(1 << 9) {
			for _, high := range []uint32{0, 0xfffffe00} {
				x := image(t, l, scope|high)
				for group := -3; group < 40; group++ {
					want := group >= 0 && group < g.Groups && scope/(1<<max(group, 0))%2 == 1
					if x.In(group) != want {
						t.Fatalf("%v, scope %b: In(%d) is %v", g, scope|high, group, !want)
					}
				}
			}
			if g.Data > 5 && scope > 8 {
				break // the greatest disk takes long
			}
		}
		x := image(t, l, every)
		for _, group := range []int{-1, g.Groups, 8, 31, 32, 33, 64, -32, 1 << 32, math.MinInt, math.MaxInt} {
			if x.In(group) {
				t.Errorf("%v: In(%d)", g, group)
			}
		}
	}
}

// 27.1 and rule 4: an image has sectors of its own, and what it hands out is the caller's.
func TestOwnSectors(t *testing.T) {
	g := shape(2, 1, 4)
	l := fresh(g)
	was := slices.Clone(l)
	x := image(t, l, every)
	for sector := range l {
		l[sector] = api.Block{9, 9}
	}
	is(t, "what was handed in is another", x, was, nil, 0)
	got := x.Blocks()
	clear(got)
	is(t, "what was handed out is another", x, was, nil, 0)

	l = slices.Clone(was)
	x = image(t, l, every)
	ahead := x.Blocks()
	writes(t, "a load", x, 5, kindDir, load(3), true)
	writes(t, "a load", x, 4, kindPtrs, load(3), true)
	if !slices.Equal(l, was) || !slices.Equal(ahead, was) {
		t.Error("a write is seen in what was handed in, or out")
	}
	wrote := x.Wrote()
	clear(wrote)
	want := with(with(was, 5, sealed(kindDir, 1, load(3))), 4, sealed(kindPtrs, 10, load(3)))
	is(t, "a list of what was written is another", x, want, []int{4, 5}, 0)

	one, two := image(t, was, every), image(t, was, every)
	writes(t, "the one", one, 5, kindDir, load(3), true)
	is(t, "the other", two, was, nil, 0)
}

// 27.1: Block and Load of no sector are noughts.
func TestNoSector(t *testing.T) {
	for _, g := range shapes() {
		x := image(t, fresh(g), every)
		for _, sector := range noSectors(total(g)) {
			if b := x.Block(sector); b != (api.Block{}) {
				t.Errorf("%v: Block(%d): %v", g, sector, b)
			}
			for kind := -1; kind < 8; kind++ {
				if p, right := x.Load(sector, kind); p != (api.Load{}) || right {
					t.Errorf("%v: Load(%d, %d): %v, %v", g, sector, kind, p, right)
				}
			}
		}
	}
}

// 27.1: Load is that of a sector which is right of the kind, whatever lies there; else noughts, and false.
func TestLoad(t *testing.T) {
	g := shape(2, 1, 4)
	for sector := 2; sector < total(g); sector++ {
		for kind := 1; kind <= 6; kind++ {
			b := sealed(kind, 7, load(byte(kind)))
			x := image(t, with(fresh(g), sector, b), 0)
			for as := 1; as <= 6; as++ {
				p, right := x.Load(sector, as)
				if as == kind && (p != load(byte(kind)) || !right) || as != kind && (p != (api.Load{}) || right) {
					t.Errorf("sector %d of kind %d: Load as %d: %v, %v", sector, kind, as, p, right)
				}
			}
			for _, as := range noKinds() {
				if p, right := x.Load(sector, as); p != (api.Load{}) || right {
					t.Errorf("sector %d of kind %d: Load as %d: %v, %v", sector, kind, as, p, right)
				}
			}
		}
	}
}

// 27.1: Load of a sector of which one byte is turned is noughts, and false.
func TestLoadWrong(t *testing.T) {
	g := shape(2, 1, 4)
	for i := range 64 {
		for bit := range 8 {
			b := turned(sealed(kindInode, 7, load(1)), i, 1<<bit)
			x := image(t, with(fresh(g), 4, b), every)
			for kind := range 8 {
				if p, right := x.Load(4, kind); p != (api.Load{}) || right {
					t.Errorf("byte %d turned: Load as %d: %v, %v", i, kind, p, right)
				}
			}
		}
	}
}

// 27.1: a load that is there, right of that kind, is not written, in the scope and out of it.
func TestWriteThere(t *testing.T) {
	g := shape(2, 1, 4)
	for sector := 2; sector < total(g); sector++ {
		for kind := 1; kind <= 6; kind++ {
			l := with(fresh(g), sector, sealed(kind, 77, load(4)))
			for _, scope := range []uint32{0, 1, 2, 3} {
				x := image(t, l, scope)
				writes(t, "it is there", x, sector, kind, load(4), true)
				is(t, "it is there", x, l, nil, 0)
			}
		}
	}
	l := fresh(g)
	x := image(t, l, 0)
	writes(t, "the shape's load", x, 0, kindSuper, shapeLoad(g), true)
	writes(t, "the shape's load", x, 1, kindSuper, shapeLoad(g), true)
	is(t, "the shape's load", x, l, nil, 0)
}

// written is one sector, and what is behind a write of a load to it.
type written struct {
	what string
	was  api.Block
	next uint32
}

// sectors are some that have not the load p as that kind, and the turn that comes behind each.
func sectors(kind int, p api.Load) []written {
	other := p
	other[53] ^= 1
	l := []written{
		{"noughts", api.Block{}, 1},
		{"the load without a seal", api.Block(append(p[:], make([]byte, 10)...)), 1},
		{"a byte of the load turned", turned(sealed(kind, 9, p), 20, 1), 1},
		{"the kind turned", turned(sealed(kind, 9, p), 54, 2), 1},
		{"255 less the kind turned", turned(sealed(kind, 9, p), 55, 2), 1},
		{"the turn turned", turned(sealed(kind, 9, p), 56, 1), 1},
		{"the sum turned", turned(sealed(kind, 9, p), 60, 1), 1},
		{"no kind", sealed(0, 9, p), 1},
		{"no kind either", sealed(7, 9, p), 1},
	}
	for _, turn := range []uint32{0, 1, 254, 255, 256, 65535, 1<<31 - 1, 1 << 31, math.MaxUint32 - 1, math.MaxUint32} {
		l = append(l, written{"another load", sealed(kind, turn, other), turn + 1})
		for k := 1; k <= 6; k++ {
			if k != kind {
				l = append(l, written{"another kind", sealed(k, turn, p), turn + 1})
			}
		}
	}
	return l
}

// 27.1: in the scope Next of the load stands there then, whatever was there, and wherever it is.
func TestWrite(t *testing.T) {
	g := shape(2, 2, 4)
	for sector := 2; sector < total(g); sector++ {
		group, _ := groupOf(g, sector)
		for kind := 1; kind <= 6; kind++ {
			for _, c := range sectors(kind, load(4)) {
				l := with(fresh(g), sector, c.was)
				x := image(t, l, 1<<group)
				writes(t, c.what, x, sector, kind, load(4), true)
				is(t, c.what, x, with(l, sector, sealed(kind, c.next, load(4))), []int{sector}, 0)
			}
		}
	}
}

// 27.1: out of the scope nothing is done, and that is once more outside each time.
func TestWriteOutside(t *testing.T) {
	g := shape(3, 2, 4)
	for sector := 2; sector < total(g); sector++ {
		group, _ := groupOf(g, sector)
		for kind := 1; kind <= 6; kind++ {
			for _, c := range sectors(kind, load(4)) {
				l := with(fresh(g), sector, c.was)
				x := image(t, l, ^(uint32(1) << group))
				writes(t, c.what, x, sector, kind, load(4), false)
				is(t, c.what, x, l, nil, 1)
				writes(t, c.what+", again", x, sector, kind, load(4), false)
				is(t, c.what+", again", x, l, nil, 2)
			}
		}
	}
}

// 27.1: sectors 0 and 1 are written with any scope.
func TestWriteShape(t *testing.T) {
	g := shape(2, 1, 4)
	for at := range 2 {
		for kind := 1; kind <= 6; kind++ {
			for _, scope := range []uint32{0, 1, 2, 3, every} {
				for _, c := range sectors(kind, load(4)) {
					l := with(fresh(g), at, c.was)
					x := image(t, l, scope)
					writes(t, c.what, x, at, kind, load(4), true)
					is(t, c.what, x, with(l, at, sealed(kind, c.next, load(4))), []int{at}, 0)
					if x.Geom() != g {
						t.Errorf("%s: the shape is %v", c.what, x.Geom())
					}
				}
			}
		}
	}
}

// 27.1: the shape is what it was when the image was made, though neither sector tells it any more.
func TestWriteBothShapes(t *testing.T) {
	g := shape(2, 1, 4)
	x := image(t, fresh(g), 2)
	writes(t, "sector 0", x, 0, kindSuper, shapeLoad(shape(1, 1, 12)), true)
	writes(t, "sector 1", x, 1, kindHead, load(1), true)
	writes(t, "a group in the scope", x, 15, kindDir, load(1), true)
	writes(t, "a group out of it", x, 3, kindDir, load(1), false)
	if x.Geom() != g || x.In(0) || !x.In(1) {
		t.Errorf("the shape is %v, the scope %v, %v", x.Geom(), x.In(0), x.In(1))
	}
}

// 27.1: nothing is written to no sector, nor as a kind that is none, and that is not outside either.
func TestWriteNothing(t *testing.T) {
	for _, g := range shapes() {
		l := fresh(g)
		for _, scope := range []uint32{0, 1, every} {
			x := image(t, l, scope)
			for _, sector := range noSectors(total(g)) {
				for kind := -1; kind < 8; kind++ {
					writes(t, "no sector", x, sector, kind, load(1), false)
					writes(t, "no sector", x, sector, kind, api.Load{}, false)
				}
				for _, kind := range noKinds() {
					writes(t, "neither", x, sector, kind, load(1), false)
				}
			}
			for _, kind := range noKinds() {
				for sector := range min(total(g), 40) {
					writes(t, "no kind", x, sector, kind, load(1), false)
					writes(t, "no kind", x, sector, kind, api.Load{}, false)
				}
			}
			is(t, "nothing", x, l, nil, 0)
		}
	}
}

// 27.1: a sector that is sealed of no kind is not there, right, though it looks so.
func TestWriteNoKind(t *testing.T) {
	g := shape(1, 1, 4)
	for _, kind := range []int{0, 7, 255} {
		l := with(fresh(g), 5, sealed(kind, 9, load(1)))
		for _, scope := range []uint32{0, 1} {
			x := image(t, l, scope)
			writes(t, "as it is sealed", x, 5, kind, load(1), false)
			is(t, "as it is sealed", x, l, nil, 0)
			if p, right := x.Load(5, kind); p != (api.Load{}) || right {
				t.Errorf("Load as %d: %v, %v", kind, p, right)
			}
		}
	}
}

// 27.1: what was written is told rising, each sector once; turns go on from write to write.
func TestWrote(t *testing.T) {
	g := shape(3, 1, 4)
	l := fresh(g)
	x := image(t, l, 5)
	for _, sector := range []int{22, 3, 1, 7, 8, 0, 16, 3, 22} {
		writes(t, "once", x, sector, kindDir, load(1), true)
	}
	writes(t, "once more", x, 8, kindPtrs, load(1), true)
	writes(t, "once more", x, 8, kindPtrs, load(2), true)
	writes(t, "the same", x, 8, kindPtrs, load(2), true)
	writes(t, "outside", x, 9, kindPtrs, load(2), false)
	writes(t, "outside", x, 14, kindPtrs, load(2), false)
	writes(t, "outside, but there", x, 10, kindMaps, load(10), true)
	want := slices.Clone(l)
	for sector, turn := range map[int]uint32{0: 6, 1: 7, 3: 9, 7: 1, 16: 22, 22: 1} {
		want[sector] = sealed(kindDir, turn, load(1))
	}
	want[8] = sealed(kindPtrs, 3, load(2))
	is(t, "some sectors", x, want, []int{0, 1, 3, 7, 8, 16, 22}, 2)
}

// 27.1: a sector that is written back to what it was was written all the same.
func TestWroteBack(t *testing.T) {
	g := shape(1, 1, 4)
	l := fresh(g)
	x := image(t, l, 1)
	writes(t, "there", x, 3, kindMaps, load(9), true)
	writes(t, "and back", x, 3, kindMaps, load(3), true)
	is(t, "there and back", x, with(l, 3, sealed(kindMaps, 10, load(3))), []int{3}, 0)
}

// Rule 2: an image that is none tells zero values, and nothing is done.
func TestNil(t *testing.T) {
	var x *scan.Image
	scan.Run(x)
	if x.Geom() != (api.Geom{}) || x.In(0) || x.In(-1) || x.Block(0) != (api.Block{}) || x.Outside() != 0 {
		t.Error("an image that is none tells something")
	}
	for kind := -1; kind < 8; kind++ {
		if p, right := x.Load(0, kind); p != (api.Load{}) || right || x.Write(0, kind, p) || x.Write(2, kind, load(1)) {
			t.Errorf("an image that is none has a load of kind %d", kind)
		}
	}
	if len(x.Blocks()) != 0 || len(x.Wrote()) != 0 || x.Outside() != 0 {
		t.Error("an image that is none has sectors")
	}
}
