package scan_test

import (
	"encoding/binary"
	"hash/crc32"
	"math"
	"slices"
	"testing"

	"scupper/api"
	"scupper/scan"
)

// The kinds of sectors, by the document's numbers, so that no shared slip of code and test hides.
const (
	kindSuper = 1
	kindHead  = 2
	kindMaps  = 3
	kindInode = 4
	kindPtrs  = 5
	kindDir   = 6
)

// every is a scope of all groups, and of bits that no group has.
const every = math.MaxUint32

// shape is groups, and of each sectors of inodes and of data.
func shape(groups, inodes, data int) api.Geom {
	return api.Geom{Groups: groups, Inodes: inodes, Data: data}
}

// shapes are some, the least and the greatest among them.
func shapes() []api.Geom {
	return []api.Geom{shape(1, 1, 4), shape(2, 1, 4), shape(3, 2, 5), shape(8, 1, 4), shape(8, 8, 128)}
}

// noKinds are kinds that no sector is right of.
func noKinds() []int {
	return []int{0, 7, -1, 255, 256, 257, 260, 1<<32 + 4, math.MinInt, math.MaxInt}
}

// noSectors are numbers that no sector of a disk of n has.
func noSectors(n int) []int {
	return []int{-1, n, n + 1, -n, 2048, 1 << 32, math.MinInt, math.MaxInt}
}

// span is how many sectors a group has, and total how many the disk has.
func span(g api.Geom) int  { return 2 + g.Inodes + g.Data }
func total(g api.Geom) int { return 2 + g.Groups*span(g) }

// head, maps, inodes are the sector of a group's head, of its maps, and its i-th of inodes.
func head(g api.Geom, group int) int      { return 2 + group*span(g) }
func maps(g api.Geom, group int) int      { return head(g, group) + 1 }
func inodes(g api.Geom, group, i int) int { return head(g, group) + 2 + i }

// groupOf is the group in which a sector lies, and its place there; -1 and the sector of the first two.
func groupOf(g api.Geom, sector int) (int, int) {
	if sector < 2 {
		return -1, sector
	}
	return (sector - 2) / span(g), (sector - 2) % span(g)
}

// kindOf is of which kind a sector must be; 0 of data.
func kindOf(g api.Geom, sector int) int {
	group, at := groupOf(g, sector)
	switch {
	case group < 0:
		return kindSuper
	case at == 0:
		return kindHead
	case at == 1:
		return kindMaps
	case at < 2+g.Inodes:
		return kindInode
	}
	return 0
}

// shapeLoad is the shape's load, by chapter 8's words.
func shapeLoad(g api.Geom) api.Load {
	p := api.Load{83, 67, 85, 80}
	binary.LittleEndian.PutUint16(p[4:], uint16(g.Groups))
	binary.LittleEndian.PutUint16(p[6:], uint16(g.Inodes))
	binary.LittleEndian.PutUint16(p[8:], uint16(g.Data))
	return p
}

// headLoad is that of a group's head, by chapter 9's words.
func headLoad(group int) api.Load { return api.Load{byte(group), byte(group >> 8)} }

// sealed is the sector of that kind, turn and load, by chapter 7's words.
func sealed(kind int, turn uint32, p api.Load) api.Block {
	var b api.Block
	copy(b[:], p[:])
	b[54], b[55] = byte(kind), byte(255-kind)
	binary.LittleEndian.PutUint32(b[56:], turn)
	binary.LittleEndian.PutUint32(b[60:], crc32.Checksum(b[:60], crc32.MakeTable(crc32.Castagnoli)))
	return b
}

// opened is the kind, the turn and the load that a sector is right of; noughts of none.
func opened(b api.Block) (int, uint32, api.Load) {
	var p api.Load
	copy(p[:], b[:])
	kind, turn := int(b[54]), binary.LittleEndian.Uint32(b[56:])
	if kind < 1 || kind > 6 || b != sealed(kind, turn, p) {
		return 0, 0, api.Load{}
	}
	return kind, turn, p
}

// load is noughts but for its first byte, its last one, and one between.
func load(n byte) api.Load {
	var p api.Load
	p[0], p[16], p[53] = n, n+1, n+2
	return p
}

// fresh is a disk of that shape on which all is right, of turns of their own.
func fresh(g api.Geom) []api.Block {
	l := make([]api.Block, total(g))
	for sector := range l {
		group, _ := groupOf(g, sector)
		turn := uint32(sector + 5)
		switch kind := kindOf(g, sector); kind {
		case kindSuper:
			l[sector] = sealed(kind, turn, shapeLoad(g))
		case kindHead:
			l[sector] = sealed(kind, turn, headLoad(group))
		case 0:
			l[sector] = api.Block{byte(sector), 0, byte(group)}
		default:
			l[sector] = sealed(kind, turn, load(byte(sector)))
		}
	}
	return l
}

// turned is b with byte i turned by x.
func turned(b api.Block, i int, x byte) api.Block {
	b[i] ^= x
	return b
}

// with is l with that sector so; l is as it was.
func with(l []api.Block, sector int, b api.Block) []api.Block {
	l = slices.Clone(l)
	l[sector] = b
	return l
}

// image is that of these sectors, which must have a shape.
func image(t *testing.T, l []api.Block, scope uint32) *scan.Image {
	t.Helper()
	x, e := scan.New(l, scope)
	if x == nil || e != api.OK {
		t.Fatalf("new: %v, error %d", x, e)
	}
	return x
}

// is holds all that an image tells against what is asked for.
func is(t *testing.T, what string, x *scan.Image, l []api.Block, wrote []int, outside int) {
	t.Helper()
	got := x.Blocks()
	if len(got) != len(l) {
		t.Errorf("%s: %d sectors, want %d", what, len(got), len(l))
		return
	}
	for sector := range l {
		if got[sector] != l[sector] {
			t.Errorf("%s: sector %d: %v, want %v", what, sector, got[sector], l[sector])
		}
		if b := x.Block(sector); b != l[sector] {
			t.Errorf("%s: Block(%d): %v, want %v", what, sector, b, l[sector])
		}
	}
	if w := x.Wrote(); !slices.Equal(w, wrote) {
		t.Errorf("%s: wrote %v, want %v", what, w, wrote)
	}
	if n := x.Outside(); n != outside {
		t.Errorf("%s: outside %d, want %d", what, n, outside)
	}
}

// writes holds what Write answers against what is asked for.
func writes(t *testing.T, what string, x *scan.Image, sector, kind int, p api.Load, want bool) {
	t.Helper()
	if there := x.Write(sector, kind, p); there != want {
		t.Errorf("%s: write of sector %d as %d: %v, want %v", what, sector, kind, there, want)
	}
}
