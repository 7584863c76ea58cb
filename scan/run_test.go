package scan_test

import (
	"math"
	"math/rand"
	"slices"
	"testing"

	"scupper/api"
	"scupper/scan"
)

// model is an image, by the chapter's words.
type model struct {
	g       api.Geom
	l       []api.Block
	scope   uint32
	wrote   []int
	outside int
}

// write is to write a load.
func (m *model) write(sector, kind int, p api.Load) bool {
	if sector < 0 || sector >= len(m.l) || kind < 1 || kind > 6 {
		return false
	}
	is, turn, q := opened(m.l[sector])
	if is == kind && q == p {
		return true
	}
	if group, _ := groupOf(m.g, sector); group >= 0 && m.scope>>group%2 == 0 {
		m.outside++
		return false
	}
	m.l[sector] = sealed(kind, turn+1, p)
	if !slices.Contains(m.wrote, sector) {
		m.wrote = append(m.wrote, sector)
		slices.Sort(m.wrote)
	}
	return true
}

// right makes the sector right of that kind, if it is not.
func (m *model) right(sector, kind int) {
	if is, _, _ := opened(m.l[sector]); is != kind {
		m.write(sector, kind, api.Load{})
	}
}

// run is the phase.
func (m *model) run() {
	m.write(0, kindSuper, shapeLoad(m.g))
	m.write(1, kindSuper, shapeLoad(m.g))
	for group := range m.g.Groups {
		if m.scope>>group%2 == 0 {
			continue
		}
		m.write(head(m.g, group), kindHead, headLoad(group))
		m.right(maps(m.g, group), kindMaps)
		for i := range m.g.Inodes {
			m.right(inodes(m.g, group, i), kindInode)
		}
	}
}

// runs holds what Run leaves of l against the model's, and that run again nothing is written.
func runs(t *testing.T, what string, g api.Geom, l []api.Block, scope uint32) []api.Block {
	t.Helper()
	x := image(t, l, scope)
	m := &model{g: g, l: slices.Clone(l), scope: scope}
	m.run()
	scan.Run(x)
	is(t, what, x, m.l, m.wrote, 0)
	scan.Run(x)
	is(t, what+", run again", x, m.l, m.wrote, 0)
	y := image(t, m.l, scope)
	scan.Run(y)
	is(t, what+", run anew", y, m.l, nil, 0)
	return x.Blocks()
}

// allRight holds 27.3's words: what is in the scope is right, what was is as it was, and so is all out of it.
func allRight(t *testing.T, what string, g api.Geom, was, now []api.Block, scope uint32) {
	t.Helper()
	for sector, b := range now {
		group, _ := groupOf(g, sector)
		kind := kindOf(g, sector)
		had, _, p := opened(was[sector])
		good := had == kind && kind != 0
		switch kind {
		case kindSuper:
			good = good && p == shapeLoad(g)
		case kindHead:
			good = good && p == headLoad(group)
		}
		if good || kind == 0 || group >= 0 && scope>>group%2 == 0 {
			if b != was[sector] {
				t.Errorf("%s: sector %d was %v, and is %v", what, sector, was[sector], b)
			}
		} else if is, _, _ := opened(b); is != kind {
			t.Errorf("%s: sector %d is right of %d, want %d", what, sector, is, kind)
		}
	}
}

// 27.2: byte by byte, where only the second sector has the shape and one group is in the scope.
func TestRunByHand(t *testing.T) {
	g := shape(2, 1, 4)
	l := make([]api.Block, 16)
	l[1] = sealed(1, 8, api.Load{83, 67, 85, 80, 2, 0, 1, 0, 4})
	l[10] = sealed(3, 7, api.Load{3})
	want := slices.Clone(l)
	want[0] = sealed(1, 1, api.Load{83, 67, 85, 80, 2, 0, 1, 0, 4})
	want[9] = sealed(2, 1, api.Load{1})
	want[11] = sealed(4, 1, api.Load{})
	x := image(t, l, 2)
	scan.Run(x)
	is(t, "the second group", x, want, []int{0, 9, 11}, 0)
	want = slices.Clone(l)
	want[0] = sealed(1, 1, api.Load{83, 67, 85, 80, 2, 0, 1, 0, 4})
	want[2] = sealed(2, 1, api.Load{})
	want[3] = sealed(3, 1, api.Load{})
	want[4] = sealed(4, 1, api.Load{})
	x = image(t, l, 1)
	scan.Run(x)
	is(t, "the first group", x, want, []int{0, 2, 3, 4}, 0)
	if x.Geom() != g {
		t.Errorf("the shape is %v", x.Geom())
	}
}

// 27.2, 27.3: where all is right nothing is written, whatever the scope.
func TestRunRight(t *testing.T) {
	for _, g := range shapes() {
		for _, scope := range []uint32{0, 1, 2, 5, 128, every} {
			l := fresh(g)
			x := image(t, l, scope)
			scan.Run(x)
			is(t, "all is right", x, l, nil, 0)
		}
	}
}

// 27.2: of noughts but the shape, all that must be right is made so, in the scope alone.
func TestRunNoughts(t *testing.T) {
	for _, g := range shapes() {
		for at := range 2 {
			l := make([]api.Block, total(g))
			l[at] = fresh(g)[at]
			for _, scope := range []uint32{0, 1, 2, 3, 128, 0xf0, every} {
				allRight(t, "noughts", g, l, runs(t, "noughts", g, l, scope), scope)
			}
		}
	}
}

// 27.2, 27.3: each sector, with whatever is there, in the scope and out of it.
func TestRunOneSector(t *testing.T) {
	g := shape(3, 2, 4)
	for sector := range total(g) {
		group, _ := groupOf(g, sector)
		was := fresh(g)[sector]
		_, _, p := opened(was)
		l := sectors(max(kindOf(g, sector), 1), p)
		for kind := 1; kind <= 6; kind++ {
			l = append(l, written{what: "its own load", was: sealed(kind, 3, p)})
			l = append(l, written{what: "right of noughts", was: sealed(kind, 3, api.Load{})})
			l = append(l, written{what: "another group's head", was: sealed(kind, 3, headLoad((group+1)%3))})
			l = append(l, written{what: "another shape", was: sealed(kind, 3, shapeLoad(shape(3, 2, 5)))})
		}
		for _, c := range l {
			disk := with(fresh(g), sector, c.was)
			for _, scope := range []uint32{0, 1, 2, 4, 5, every} {
				allRight(t, c.what, g, disk, runs(t, c.what, g, disk, scope), scope)
			}
		}
	}
}

// 27.2: of maps and inodes those that are right of another kind get noughts, one turn on.
func TestRunOtherKind(t *testing.T) {
	g := shape(2, 2, 4)
	for group := range 2 {
		for _, sector := range []int{maps(g, group), inodes(g, group, 0), inodes(g, group, 1)} {
			must := kindOf(g, sector)
			for kind := 1; kind <= 6; kind++ {
				l := with(fresh(g), sector, sealed(kind, math.MaxUint32, load(1)))
				x := image(t, l, 1<<group)
				scan.Run(x)
				if kind == must {
					is(t, "the kind itself", x, l, nil, 0)
				} else {
					is(t, "another kind", x, with(l, sector, sealed(must, 0, api.Load{})), []int{sector}, 0)
				}
			}
		}
	}
}

// 27.2: a head that is right, of another load, gets its load; its turn goes on.
func TestRunHead(t *testing.T) {
	g := shape(8, 1, 4)
	for group := range 8 {
		sector := head(g, group)
		for _, p := range []api.Load{headLoad(group ^ 1), headLoad(group + 8), headLoad(group + 256), {byte(group), 0, 1}, load(byte(group))} {
			l := with(fresh(g), sector, sealed(kindHead, 255, p))
			x := image(t, l, 1<<group)
			scan.Run(x)
			is(t, "another load", x, with(l, sector, sealed(kindHead, 256, headLoad(group))), []int{sector}, 0)
		}
	}
}

// 27.2: sectors 0 and 1 get the shape with any scope; the one that has it stays as it was.
func TestRunShape(t *testing.T) {
	for _, g := range shapes() {
		for at := range 2 {
			for _, c := range sectors(kindSuper, shapeLoad(g)) {
				l := with(fresh(g), at, c.was)
				for _, scope := range []uint32{0, 1, every} {
					x := image(t, l, scope)
					scan.Run(x)
					is(t, c.what, x, with(l, at, sealed(kindSuper, c.next, shapeLoad(g))), []int{at}, 0)
				}
				if g.Data > 100 {
					break // the greatest disk takes long
				}
			}
		}
	}
	a, b := shape(1, 1, 5), shape(1, 2, 4) // both have 10 sectors
	l := with(fresh(a), 1, sealed(kindSuper, 9, shapeLoad(b)))
	x := image(t, l, 0)
	scan.Run(x)
	is(t, "two shapes", x, with(l, 1, sealed(kindSuper, 10, shapeLoad(a))), []int{1}, 0)
}

// 27.2: what was written, and what was outside, ahead of Run stays told behind it.
func TestRunBehindWrites(t *testing.T) {
	g := shape(2, 1, 4)
	l := fresh(g)
	x := image(t, l, 1)
	writes(t, "data", x, 8, kindDir, load(1), true)
	writes(t, "maps, as inodes", x, 3, kindInode, load(1), true)
	writes(t, "outside", x, 10, kindInode, load(1), false)
	scan.Run(x)
	want := with(with(l, 8, sealed(kindDir, 1, load(1))), 3, sealed(kindMaps, 10, api.Load{}))
	is(t, "behind writes", x, want, []int{3, 8}, 1)
}

// whatever is some sector: noughts, sealed as whatever, or one that was right and is damaged.
func whatever(d *rand.Rand, g api.Geom, sector int) api.Block {
	kind := 1 + d.Intn(6)
	if d.Intn(2) == 0 {
		kind = max(kindOf(g, sector), 1)
	}
	p := [...]api.Load{{}, load(byte(d.Intn(4))), headLoad(d.Intn(8)), shapeLoad(g)}[d.Intn(4)]
	turn := [...]uint32{0, 1, uint32(d.Intn(300)), math.MaxUint32}[d.Intn(4)]
	switch b := sealed(kind, turn, p); d.Intn(5) {
	case 0:
		return api.Block{}
	case 1:
		return turned(b, d.Intn(64), 1<<d.Intn(8))
	case 2:
		return fresh(g)[sector]
	default:
		return b
	}
}

// 27.1 to 27.3: long runs of writes and of the phase, on disks of whatever, against the chapter's words.
func TestDice(t *testing.T) {
	for seed := range int64(300) {
		d := rand.New(rand.NewSource(seed))
		g := shape(1+d.Intn(4), 1+d.Intn(3), 4+d.Intn(3))
		l := make([]api.Block, total(g))
		for sector := range l {
			l[sector] = whatever(d, g, sector)
		}
		l[d.Intn(2)] = sealed(kindSuper, uint32(d.Intn(9)), shapeLoad(g))
		if at := l[0]; at != sealed(kindSuper, opensTurn(at), shapeLoad(g)) {
			l[0] = api.Block{} // no other shape of that size may come first
		}
		scope := d.Uint32()
		x, m := image(t, l, scope), &model{g: g, l: slices.Clone(l), scope: scope}
		for range 60 {
			if d.Intn(20) == 0 {
				scan.Run(x)
				m.run()
			}
			sector, kind := d.Intn(total(g)+4)-2, d.Intn(9)-1
			p := [...]api.Load{{}, load(1), load(2), headLoad(d.Intn(3))}[d.Intn(4)]
			if got, want := x.Write(sector, kind, p), m.write(sector, kind, p); got != want {
				t.Fatalf("seed %d: write of sector %d as %d: %v", seed, sector, kind, got)
			}
		}
		is(t, "dice", x, m.l, m.wrote, m.outside)
		was := x.Blocks()
		scan.Run(x)
		m.run()
		is(t, "dice, run", x, m.l, m.wrote, m.outside)
		allRight(t, "dice, run", g, was, x.Blocks(), scope)
		if t.Failed() {
			t.Fatalf("seed %d", seed)
		}
	}
}

// opensTurn is the turn of a sector.
func opensTurn(b api.Block) uint32 {
	_, turn, _ := opened(b)
	return turn
}
