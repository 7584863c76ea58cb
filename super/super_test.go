package super_test

import (
	"encoding/binary"
	"hash/crc32"
	"math"
	"slices"
	"testing"

	"scupper/api"
	"scupper/super"
)

// shape is groups, and of each sectors of inodes and of data.
func shape(groups, inodes, data int) api.Geom {
	return api.Geom{Groups: groups, Inodes: inodes, Data: data}
}

// least and greatest are the shapes at the ends of those that may be.
func least() api.Geom    { return shape(1, 1, 4) }
func greatest() api.Geom { return shape(8, 8, 128) }

// shapes are all that may be.
func shapes() []api.Geom {
	var l []api.Geom
	for groups := 1; groups <= 8; groups++ {
		for inodes := 1; inodes <= 8; inodes++ {
			for data := 4; data <= 128; data++ {
				l = append(l, shape(groups, inodes, data))
			}
		}
	}
	return l
}

// some are a few shapes, those at the ends among them.
func some() []api.Geom {
	return []api.Geom{least(), greatest(), shape(1, 2, 100), shape(1, 2, 12), shape(2, 1, 4), shape(8, 1, 4), shape(1, 8, 4), shape(1, 1, 128)}
}

// noShapes are some that may not be; cut to a byte, two or four, some of them would be.
func noShapes() []api.Geom {
	l := []api.Geom{{}, shape(-1, -1, -4), shape(9, 9, 129), shape(65535, 65535, 65535)}
	for _, n := range []int{0, 9, -1, 255, 256, 257, 65535, 65537, -65535, 1<<32 + 1, math.MinInt, math.MinInt + 1, math.MaxInt} {
		l = append(l, shape(n, 2, 100), shape(1, n, 100))
	}
	for _, n := range []int{0, 1, 3, 129, -1, -4, 256, 260, 300, 65535, 65540, -65532, 1<<32 + 4, math.MinInt, math.MinInt + 4, math.MaxInt} {
		l = append(l, shape(1, 2, n))
	}
	return l
}

// total is how many sectors a disk of that shape has: two, and of each group a head, maps, inodes and data.
func total(g api.Geom) int { return 2 + g.Groups*(2+g.Inodes+g.Data) }

// load is the shape's, by the chapter's words, also of one that may not be, if its numbers have two bytes.
func load(g api.Geom) api.Load {
	p := api.Load{83, 67, 85, 80}
	binary.LittleEndian.PutUint16(p[4:], uint16(g.Groups))
	binary.LittleEndian.PutUint16(p[6:], uint16(g.Inodes))
	binary.LittleEndian.PutUint16(p[8:], uint16(g.Data))
	return p
}

// sealed is the sector of that kind, turn and load, by chapter 7's words.
func sealed(kind int, turn uint32, p api.Load) api.Block {
	var b api.Block
	copy(b[:], p[:])
	b[54], b[55] = byte(kind), byte(255-kind)
	binary.LittleEndian.PutUint32(b[56:], turn)
	binary.LittleEndian.PutUint32(b[60:], crc32.Checksum(b[:60], crc32.MakeTable(crc32.Castagnoli)))
	return b
}

// of is the sector that has the shape, with that turn.
func of(g api.Geom, turn uint32) api.Block { return sealed(api.KindSuper, turn, load(g)) }

// turned is b with byte i turned by x.
func turned(b api.Block, i int, x byte) api.Block {
	b[i] ^= x
	return b
}

// with is p with byte i being x.
func with(p api.Load, i int, x byte) api.Load {
	p[i] = x
	return p
}

// disk is n sectors, of which the first two (or as many as there are) are these, all else noughts.
func disk(n int, first, second api.Block) []api.Block {
	l := make([]api.Block, max(n, 2))
	l[0], l[1] = first, second
	return l[:n]
}

// turns are some, the first, and the last ones ahead of where they go round.
func turns() []uint32 {
	return []uint32{0, 1, 2, 255, 256, 0x04030201, 1 << 31, math.MaxUint32 - 1, math.MaxUint32}
}

// other is a sector without the shape, and the turn that comes behind it.
type other struct {
	what string
	b    api.Block
	next uint32
}

// others are sectors that have no shape of a disk of g's size.
func others(g api.Geom) []other {
	l := []other{
		{"noughts", api.Block{}, 1},
		{"the load alone, without a seal", sealedNot(g), 1},
		{"a first byte turned", turned(of(g, 9), 0, 1), 1},
		{"a number turned", turned(of(g, 9), 8, 64), 1},
		{"a kind turned", turned(of(g, 9), 54, 2), 1},
		{"a turn turned", turned(of(g, 9), 56, 1), 1},
		{"a sum turned", turned(of(g, 9), 63, 128), 1},
		{"no kind", sealed(0, 9, load(g)), 1},
		{"no kind either", sealed(7, 9, load(g)), 1},
		{"right, of noughts", sealed(1, 9, api.Load{}), 10},
		{"right, with a wrong first byte", sealed(1, 9, with(load(g), 0, 84)), 10},
		{"right, with a byte behind the numbers", sealed(1, 9, with(load(g), 10, 1)), 10},
		{"right, with a last byte", sealed(1, 9, with(load(g), 53, 255)), 10},
		{"right, without groups", sealed(1, 9, load(shape(0, g.Inodes, g.Data))), 10},
		{"right, of a shape of another size", of(shape(3, 5, 61), 9), 10},
		{"right, of other groups", of(shape(g.Groups%8+1, g.Inodes, g.Data), 9), 10},
		{"right, behind which turns go round", sealed(1, math.MaxUint32, api.Load{}), 0},
	}
	for kind := 2; kind <= 6; kind++ {
		for _, turn := range turns() {
			l = append(l, other{"the shape's load, of another kind", sealed(kind, turn, load(g)), turn + 1})
		}
	}
	return l
}

// sealedNot is the shape's load with noughts where the seal should be.
func sealedNot(g api.Geom) api.Block {
	var b api.Block
	p := load(g)
	copy(b[:], p[:])
	return b
}

// found holds what Find tells against what is asked for.
func found(t *testing.T, what string, l []api.Block, want api.Geom, at int) {
	t.Helper()
	if g, n, e := super.Find(l); g != want || n != at || e != api.OK {
		t.Errorf("%s: found %v in %d, error %d, want %v in %d", what, g, n, e, want, at)
	}
}

// mended holds what Mend tells against what is asked for.
func mended(t *testing.T, what string, l []api.Block, want map[int]api.Block) {
	t.Helper()
	m, e := super.Mend(l)
	if e != api.OK || len(m) != len(want) {
		t.Errorf("%s: %d sectors to write, error %d, want %d", what, len(m), e, len(want))
	}
	for at, b := range want {
		if c, there := m[at]; !there || c != b {
			t.Errorf("%s: sector %d: %v, %v, want %v", what, at, c, there, b)
		}
	}
}

// refused holds that Find and Mend tell ErrSuper, and nothing else.
func refused(t *testing.T, what string, l []api.Block) {
	t.Helper()
	if g, at, e := super.Find(l); g != (api.Geom{}) || at != 0 || e != api.ErrSuper {
		t.Errorf("%s: found %v in %d, error %d, want noughts, error 22", what, g, at, e)
	}
	if m, e := super.Mend(l); m != nil || e != api.ErrSuper {
		t.Errorf("%s: mended by %v, error %d, want nothing, error 22", what, m, e)
	}
}

// noLoad holds that Get tells ErrSuper, and nothing else.
func noLoad(t *testing.T, what string, p api.Load) {
	t.Helper()
	if g, e := super.Get(p); g != (api.Geom{}) || e != api.ErrSuper {
		t.Errorf("%s: got %v, error %d, want noughts, error 22", what, g, e)
	}
}

// 8.1: loads byte by byte.
func TestPutByHand(t *testing.T) {
	want := api.Load{83, 67, 85, 80, 1, 0, 2, 0, 100}
	if p, e := super.Put(shape(1, 2, 100)); p != want || e != api.OK {
		t.Errorf("put 1, 2, 100: %v, error %d, want %v", p, e, want)
	}
	want = api.Load{83, 67, 85, 80, 8, 0, 7, 0, 128}
	if p, e := super.Put(shape(8, 7, 128)); p != want || e != api.OK {
		t.Errorf("put 8, 7, 128: %v, error %d, want %v", p, e, want)
	}
}

// 8.1: of each shape that may be the load is put, and the shape got back.
func TestPutAndGet(t *testing.T) {
	for _, g := range shapes() {
		p, e := super.Put(g)
		if want := load(g); p != want || e != api.OK {
			t.Errorf("put %v: %v, error %d, want %v", g, p, e, want)
		}
		if h, e := super.Get(load(g)); h != g || e != api.OK {
			t.Errorf("get of %v's load: %v, error %d", g, h, e)
		}
	}
}

// 8.1: Format is the load, sealed with turn 1.
func TestFormat(t *testing.T) {
	for _, g := range shapes() {
		b, e := super.Format(g)
		if want := of(g, 1); b != want || e != api.OK {
			t.Errorf("format %v: %v, error %d, want %v", g, b, e, want)
		}
	}
}

// 8.1: Put and Format tell ErrArg of a shape that may not be, and nothing else.
func TestNoShape(t *testing.T) {
	for _, g := range noShapes() {
		if p, e := super.Put(g); p != (api.Load{}) || e != api.ErrArg {
			t.Errorf("put %v: %v, error %d, want noughts, error 2", g, p, e)
		}
		if b, e := super.Format(g); b != (api.Block{}) || e != api.ErrArg {
			t.Errorf("format %v: %v, error %d, want noughts, error 2", g, b, e)
		}
	}
}

// 8.1: a load with one byte wrong, that is none of a number's, is no shape's.
func TestGetOneByte(t *testing.T) {
	for _, g := range some() {
		for i := range api.Payload {
			if i >= 4 && i < 10 {
				continue
			}
			for x := 1; x < 256; x++ {
				noLoad(t, "a byte turned", with(load(g), i, load(g)[i]^byte(x)))
			}
		}
	}
}

// 8.1: of all numbers of two bytes just those of shapes that may be are a shape's.
func TestGetNumbers(t *testing.T) {
	for n := range 65536 {
		for _, c := range []struct {
			g    api.Geom
			want bool
		}{
			{shape(n, 2, 100), n >= 1 && n <= 8},
			{shape(1, n, 100), n >= 1 && n <= 8},
			{shape(1, 2, n), n >= 4 && n <= 128},
		} {
			if !c.want {
				noLoad(t, "numbers of no shape", load(c.g))
			} else if g, e := super.Get(load(c.g)); g != c.g || e != api.OK {
				t.Errorf("get of %v's load: %v, error %d", c.g, g, e)
			}
		}
	}
}

// 8.1: loads that are no shape's in other ways.
func TestGetOthers(t *testing.T) {
	var full, moved api.Load
	for i := range full {
		full[i] = 255
	}
	p := load(shape(1, 2, 100))
	copy(moved[1:], p[:])
	noLoad(t, "noughts", api.Load{})
	noLoad(t, "255s", full)
	noLoad(t, "moved by one byte", moved)
	noLoad(t, "the first four bytes alone", api.Load{83, 67, 85, 80})
	noLoad(t, "the first four turned round", api.Load{80, 85, 67, 83, 1, 0, 2, 0, 100})
	noLoad(t, "small letters", api.Load{115, 99, 117, 112, 1, 0, 2, 0, 100})
	noLoad(t, "the highest bytes first", api.Load{83, 67, 85, 80, 0, 1, 0, 2, 0, 100})
	noLoad(t, "numbers of one byte", api.Load{83, 67, 85, 80, 1, 2, 100})
	noLoad(t, "numbers of four bytes", api.Load{83, 67, 85, 80, 1, 0, 0, 0, 2, 0, 0, 0, 100})
	noLoad(t, "no first four", api.Load{1, 0, 2, 0, 100})
}

// 8.2: the shape is found in sector 0, in sector 1, and of both in 0; whatever the turns.
func TestFind(t *testing.T) {
	for _, g := range some() {
		for _, turn := range turns() {
			b := of(g, turn)
			found(t, "in both", disk(total(g), b, b), g, 0)
			found(t, "in both, with other turns", disk(total(g), b, of(g, turn+1)), g, 0)
			found(t, "in sector 0", disk(total(g), b, api.Block{}), g, 0)
			found(t, "in sector 1", disk(total(g), api.Block{}, b), g, 1)
		}
	}
}

// 8.2: each shape that may be is found, by a disk of its size alone.
func TestFindAll(t *testing.T) {
	all := make([]api.Block, total(greatest())+1)
	for _, g := range shapes() {
		all[0], all[1] = of(g, 1), of(g, 1)
		found(t, "a disk of that size", all[:total(g)], g, 0)
		refused(t, "one sector fewer", all[:total(g)-1])
		refused(t, "one sector more", all[:total(g)+1])
	}
}

// 8.2: a shape of another size is none of the disk's, wherever it stands.
func TestFindSize(t *testing.T) {
	g := least() // 9 sectors
	for n := range 200 {
		if n == total(g) {
			continue
		}
		refused(t, "in both", disk(n, of(g, 1), of(g, 1)))
		refused(t, "in sector 0", disk(n, of(g, 1), api.Block{}))
		refused(t, "in sector 1", disk(n, api.Block{}, of(g, 1)))
	}
	if total(g) != 9 {
		t.Fatalf("the least shape has %d sectors", total(g))
	}
}

// 8.2: of two shapes that which has the disk's size is found; if both have it, the first one.
func TestFindTwoShapes(t *testing.T) {
	small, big := shape(1, 2, 12), shape(2, 3, 40)
	found(t, "the first has the size", disk(total(small), of(small, 1), of(big, 9)), small, 0)
	found(t, "the second has the size", disk(total(small), of(big, 9), of(small, 1)), small, 1)
	found(t, "the first, of the other size", disk(total(big), of(big, 1), of(small, 9)), big, 0)
	found(t, "the second, of the other size", disk(total(big), of(small, 9), of(big, 1)), big, 1)
	refused(t, "none has the size", disk(total(big)-1, of(small, 1), of(big, 1)))
	a, b := shape(1, 1, 5), shape(1, 2, 4)
	if total(a) != total(b) {
		t.Fatalf("shapes of %d and %d sectors", total(a), total(b))
	}
	found(t, "both have the size", disk(total(a), of(a, 1), of(b, 2)), a, 0)
	found(t, "both have it, the other way round", disk(total(a), of(b, 1), of(a, 2)), b, 0)
}

// 8.2: shapes in other sectors than 0 and 1 are not looked at.
func TestFindElsewhere(t *testing.T) {
	g := shape(1, 2, 12)
	l := disk(total(g), api.Block{}, api.Block{})
	for i := 2; i < len(l); i++ {
		l[i] = of(g, 1)
	}
	refused(t, "shapes behind sector 1", l)
	l[1] = of(g, 1)
	found(t, "shapes from sector 1 on", l, g, 1)
}

// 8.2: the chapter's example, and other disks without a shape.
func TestNoDisk(t *testing.T) {
	refused(t, "no sectors", nil)
	refused(t, "no sectors either", []api.Block{})
	refused(t, "one sector", []api.Block{{}})
	for n := range 40 {
		refused(t, "noughts", make([]api.Block, n))
	}
	refused(t, "noughts, as many as there may be", make([]api.Block, api.MaxSectors))
	for _, g := range some() {
		b := of(g, 1)
		refused(t, "one sector with a shape", []api.Block{b})
		refused(t, "two sectors with a shape", []api.Block{b, b})
		refused(t, "more sectors than there may be", disk(api.MaxSectors+1, b, b))
	}
}

// 8.2: sectors of which none has the disk's shape, of all sorts.
func TestNoneOfBoth(t *testing.T) {
	for _, g := range some() {
		for _, a := range others(g) {
			for _, b := range others(g) {
				refused(t, a.what+"; "+b.what, disk(total(g), a.b, b.b))
			}
		}
	}
}

// 8.2: where both have the shape nothing is to write, whatever their turns.
func TestMendNothing(t *testing.T) {
	for _, g := range some() {
		for _, m := range turns() {
			for _, n := range turns() {
				mended(t, "both have it", disk(total(g), of(g, m), of(g, n)), nil)
			}
		}
	}
}

// 8.2: the sector that has not the shape is written, with Next of the load, and that one alone.
func TestMendOne(t *testing.T) {
	for _, g := range some() {
		for _, turn := range []uint32{1, 77, math.MaxUint32} {
			for _, o := range others(g) {
				want := of(g, o.next)
				mended(t, "sector 0: "+o.what, disk(total(g), o.b, of(g, turn)), map[int]api.Block{0: want})
				mended(t, "sector 1: "+o.what, disk(total(g), of(g, turn), o.b), map[int]api.Block{1: want})
			}
		}
	}
}

// 8.2: behind a sector that is right of any kind the turn is one more; it goes round.
func TestMendTurns(t *testing.T) {
	g := shape(1, 2, 12)
	for kind := 1; kind <= 6; kind++ {
		for _, turn := range turns() {
			was := sealed(kind, turn, api.Load{5})
			mended(t, "sector 0", disk(total(g), was, of(g, 3)), map[int]api.Block{0: of(g, turn+1)})
			mended(t, "sector 1", disk(total(g), of(g, 3), was), map[int]api.Block{1: of(g, turn+1)})
			wrong := turned(was, 20, 1)
			mended(t, "sector 0, not right", disk(total(g), wrong, of(g, 3)), map[int]api.Block{0: of(g, 1)})
			mended(t, "sector 1, not right", disk(total(g), of(g, 3), wrong), map[int]api.Block{1: of(g, 1)})
		}
	}
}

// 8.2: where sector 1 has another shape of the disk's size it gets that of sector 0.
func TestMendTwoShapes(t *testing.T) {
	a, b := shape(1, 1, 5), shape(1, 2, 4)
	mended(t, "two shapes", disk(total(a), of(a, 4), of(b, 40)), map[int]api.Block{1: of(a, 41)})
	mended(t, "the other way round", disk(total(a), of(b, 4), of(a, 40)), map[int]api.Block{1: of(b, 41)})
}

// 8.3: a disk of which one of both sectors has the shape has it, whatever the other one has.
func TestTwice(t *testing.T) {
	for _, g := range some() {
		for _, o := range others(g) {
			found(t, "sector 0: "+o.what, disk(total(g), o.b, of(g, 6)), g, 1)
			found(t, "sector 1: "+o.what, disk(total(g), of(g, 6), o.b), g, 0)
		}
	}
}

// 8.3: likewise of each byte of the other one turned, by whatever.
func TestTwiceTurned(t *testing.T) {
	g := shape(1, 2, 12)
	for i := range api.Sector {
		for x := 1; x < 256; x++ {
			bad := turned(of(g, 6), i, byte(x))
			found(t, "sector 0 turned", disk(total(g), bad, of(g, 6)), g, 1)
			found(t, "sector 1 turned", disk(total(g), of(g, 6), bad), g, 0)
		}
	}
}

// written is the disk with what Mend tells written.
func written(t *testing.T, l []api.Block) []api.Block {
	t.Helper()
	m, e := super.Mend(l)
	if e != api.OK {
		t.Errorf("mend: error %d", e)
	}
	l = slices.Clone(l)
	for at, b := range m {
		if at != 0 && at != 1 {
			t.Fatalf("sector %d is to write", at)
		}
		l[at] = b
	}
	return l
}

// 8.4: where both were mended nothing is left to mend, and the shape is that which was found.
func TestMendAgain(t *testing.T) {
	for _, g := range some() {
		for _, o := range others(g) {
			for _, l := range [][]api.Block{disk(total(g), o.b, of(g, 6)), disk(total(g), of(g, 6), o.b)} {
				l = written(t, l)
				mended(t, o.what, l, nil)
				found(t, o.what, l, g, 0)
				l[0] = api.Block{}
				found(t, o.what+", and sector 0 gone", l, g, 1)
			}
		}
	}
	a, b := shape(1, 1, 5), shape(1, 2, 4)
	l := written(t, disk(total(a), of(a, 4), of(b, 40)))
	mended(t, "two shapes", l, nil)
	l[0] = api.Block{}
	found(t, "two shapes, and sector 0 gone", l, a, 1)
}

// 8.4: of what was formatted nothing is to mend.
func TestMendFormatted(t *testing.T) {
	for _, g := range some() {
		b, e := super.Format(g)
		if e != api.OK {
			t.Errorf("format %v: error %d", g, e)
		}
		mended(t, "formatted", disk(total(g), b, b), nil)
	}
}

// Rule 4: sectors that are handed in stay as they are, and a map that is handed out is the caller's own.
func TestOwn(t *testing.T) {
	g := shape(1, 2, 12)
	l := disk(total(g), api.Block{7}, of(g, 6))
	was := slices.Clone(l)
	m, _ := super.Mend(l)
	m[0], m[1] = api.Block{1}, api.Block{2}
	mended(t, "asked again", l, map[int]api.Block{0: of(g, 1)})
	super.Find(l)
	if !slices.Equal(l, was) {
		t.Error("sectors that were handed in were changed")
	}
}
