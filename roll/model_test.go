package roll_test

import (
	"encoding/binary"
	"hash/crc32"
	"slices"
	"testing"

	"scupper/api"
	"scupper/roll"
)

// sum is the library's own check sum of all ahead of where a seal's sum lies.
func sum(b api.Block) uint32 {
	return crc32.Checksum(b[:60], crc32.MakeTable(crc32.Castagnoli))
}

// sealed is the sealed sector, by the words of chapter 7.
func sealed(kind int, turn uint32, p api.Load) api.Block {
	var b api.Block
	for i, x := range p {
		b[i] = x
	}
	b[54], b[55] = byte(kind), byte(255-kind)
	binary.LittleEndian.PutUint32(b[56:], turn)
	binary.LittleEndian.PutUint32(b[60:], sum(b))
	return b
}

// kindOf is the kind of which b is right; 0 if there is none.
func kindOf(b api.Block) int {
	kind := int(b[54])
	if kind < 1 || kind > 6 || int(b[55]) != 255-kind || binary.LittleEndian.Uint32(b[60:]) != sum(b) {
		return 0
	}
	return kind
}

// loadOf is b's load as that kind, byte by byte.
func loadOf(b api.Block, kind int) api.Load {
	var p api.Load
	if kind == 0 || kindOf(b) != kind {
		return p
	}
	for i := range p {
		p[i] = b[i]
	}
	return p
}

// turnBehind is the turn that comes behind that of b.
func turnBehind(b api.Block) uint32 {
	if kindOf(b) == 0 {
		return 1
	}
	return binary.LittleEndian.Uint32(b[56:]) + 1
}

// mayBe is whether a patch's kind and place are such as chapter 14 lets be; one without bytes has a place, too.
func mayBe(p api.Patch) bool {
	most := 64
	if p.Kind != 0 {
		most = 54
	}
	if p.Kind < 0 || p.Kind > 6 || len(p.Data) > most {
		return false
	}
	return p.Off >= 0 && p.Off <= most && p.Off+len(p.Data) <= most
}

// laid is b with p over it, by the chapter's words, p's bytes gone over one by one.
func laid(b api.Block, p api.Patch, turn uint32) (api.Block, api.Errno) {
	if !mayBe(p) {
		return b, api.ErrArg
	}
	if p.Kind == 0 {
		for i, x := range p.Data {
			b[p.Off+i] = x
		}
		return b, api.OK
	}
	load := loadOf(b, p.Kind)
	for i, x := range p.Data {
		load[p.Off+i] = x
	}
	return sealed(p.Kind, turn, load), api.OK
}

// rolled is the roll of b and l; b as it was, if one of l may not be.
func rolled(b api.Block, l []api.Patch) (api.Block, api.Errno) {
	now, turn := b, turnBehind(b)
	for _, p := range l {
		next, e := laid(now, p, turn)
		if e != api.OK {
			return b, e
		}
		now = next
	}
	return now, api.OK
}

// parted is those of l whose Ids are among ids, and the others.
func parted(l []api.Patch, ids []int) (some, rest []api.Patch) {
	for _, p := range l {
		if slices.Contains(ids, p.Id) {
			some = append(some, p)
		} else {
			rest = append(rest, p)
		}
	}
	return some, rest
}

// meet is whether two patches meet, by the words of chapter 14.
func meet(p, q api.Patch) bool {
	if p.At != q.At {
		return false
	}
	if p.Kind != q.Kind {
		return true
	}
	for i := range p.Data {
		for k := range q.Data {
			if p.Off+i == q.Off+k {
				return true
			}
		}
	}
	return false
}

// mayPart is whether each of the others stands behind all of ids, or meets none of them that stands behind it.
func mayPart(l []api.Patch, ids []int) bool {
	for i, other := range l {
		if slices.Contains(ids, other.Id) {
			continue
		}
		for _, p := range l[i+1:] {
			if slices.Contains(ids, p.Id) && meet(other, p) {
				return false
			}
		}
	}
	return true
}

// butForTurns is a sector without its turn, and without the sum that hangs on it.
func butForTurns(b api.Block) api.Block {
	for i := 56; i < 64; i++ {
		b[i] = 0
	}
	return b
}

// alike is whether two patches are the same, an empty list being as none.
func alike(p, q api.Patch) bool {
	return p.Id == q.Id && p.At == q.At && p.Off == q.Off && p.Kind == q.Kind &&
		p.Owner == q.Owner && p.Child == q.Child && p.Written == q.Written &&
		slices.Equal(p.Data, q.Data) && slices.Equal(p.Needs, q.Needs)
}

// deep is a copy of l, with all that its patches have.
func deep(l []api.Patch) []api.Patch {
	var c []api.Patch
	for _, p := range l {
		p.Data, p.Needs = slices.Clone(p.Data), slices.Clone(p.Needs)
		c = append(c, p)
	}
	return c
}

// dice is numbers that look as if they were drawn, and are the same in each run.
type dice uint64

func (d *dice) below(n int) int {
	*d = *d*6364136223846793005 + 1442695040888963407
	return int(uint64(*d)>>33) % n
}

func (d *dice) bytes(n int) []byte {
	l := make([]byte, n)
	for i := range l {
		l[i] = byte(d.below(256))
	}
	return l
}

func (d *dice) load() api.Load { return api.Load(d.bytes(54)) }

// block is any bytes, or a sector that is right of a kind.
func (d *dice) block() api.Block {
	if d.below(4) == 0 {
		return api.Block(d.bytes(64))
	}
	turns := []uint32{0, 1, 5, 1<<32 - 2, 1<<32 - 1}
	return sealed(1+d.below(6), turns[d.below(len(turns))], d.load())
}

// patch is one that may be, of one of kinds; now and then without bytes.
func (d *dice) patch(id int, kinds ...int) api.Patch {
	p := api.Patch{Id: id, Kind: kinds[d.below(len(kinds))]}
	most := 64
	if p.Kind != 0 {
		most = 54
	}
	n := d.below(7)
	if d.below(8) == 0 {
		n = d.below(most + 1)
	}
	p.Data = d.bytes(n)
	p.Off = d.below(most - n + 1)
	return p
}

// wrong is p turned to one that may not be.
func (d *dice) wrong(p api.Patch) api.Patch {
	switch d.below(4) {
	case 0:
		p.Kind = []int{-1, 7}[d.below(2)]
	case 1:
		p.Off = -1 - d.below(3)
	case 2:
		p.Data, p.Off = nil, 65+d.below(3)
	default:
		p.Off = 65 - len(p.Data)
	}
	return p
}

func sets() [][]int {
	return [][]int{{0}, {4}, {6}, {4, 6}, {0, 4}, {0, 1, 2, 3, 4, 5, 6}}
}

// same holds what a roll tells against the second reckoning.
func same(t *testing.T, what string, b api.Block, e api.Errno, want api.Block, we api.Errno) {
	t.Helper()
	if b != want || e != we {
		t.Errorf("%s: %v, %v\nwant %v, %v", what, b, e, want, we)
	}
}

// 15.1, 15.2: long runs of rolls, of all patches and of some, with wrong ones among them, against the second reckoning.
func TestRuns(t *testing.T) {
	for seed := range 3000 {
		d := dice(seed + 1)
		b, kinds := d.block(), sets()[seed%len(sets())]
		var l []api.Patch
		for range d.below(9) {
			p := d.patch(d.below(6), kinds...)
			if d.below(24) == 0 {
				p = d.wrong(p)
			}
			l = append(l, p)
		}
		var ids []int
		for range d.below(6) {
			ids = append(ids, d.below(8)-1)
		}
		was := deep(l)
		some, rest := parted(l, ids)
		got, e := roll.Now(b, l)
		want, we := rolled(b, l)
		same(t, "Now", got, e, want, we)
		if turn := roll.Turn(got); turn != turnBehind(want) {
			t.Errorf("Turn: %d, want %d", turn, turnBehind(want))
		}
		for kind := range 7 {
			if p := roll.Load(got, kind); p != loadOf(want, kind) {
				t.Errorf("Load of kind %d: %v, want %v", kind, p, loadOf(want, kind))
			}
		}
		got, e = roll.Some(b, l, ids)
		want, we = rolled(b, some)
		same(t, "Some", got, e, want, we)
		if got := roll.Without(l, ids); !slices.EqualFunc(got, rest, alike) {
			t.Errorf("Without: %v, want %v", got, rest)
		}
		if !slices.EqualFunc(l, was, alike) {
			t.Errorf("the list is %v, and was %v", l, was)
		}
		if t.Failed() {
			t.Fatalf("seed %d: %v, %v of %v", seed, ids, l, b)
		}
	}
}

// parts holds 15.3 of each part of l that it speaks of, and tells of how many.
func parts(t *testing.T, b api.Block, l []api.Patch, raw bool) int {
	t.Helper()
	all, e := roll.Now(b, l)
	if e != api.OK {
		t.Fatalf("Now: %v of %v", e, l)
	}
	n := 0
	for bits := range 1 << len(l) {
		var ids []int
		for i, p := range l {
			if bits>>i&1 == 1 {
				ids = append(ids, p.Id)
			}
		}
		if !mayPart(l, ids) {
			continue
		}
		n++
		first, e := roll.Some(b, l, ids)
		both, f := roll.Now(first, roll.Without(l, ids))
		if e != api.OK || f != api.OK {
			t.Fatalf("%v, and then the others: %v, %v", ids, e, f)
		}
		if kindOf(both) != kindOf(all) || butForTurns(both) != butForTurns(all) || raw && both != all {
			t.Fatalf("%v, and then the others, of %v:\n%v, want\n%v", ids, l, both, all)
		}
	}
	return n
}

// 15.3: each list of three patches at small places, of one kind or of several, with bytes and without, over each sort of sector.
func TestBackAndForwardOfThree(t *testing.T) {
	d := dice(15)
	from := []api.Block{api.Block(d.bytes(64)), sealed(4, 9, d.load()), sealed(6, 1<<32-1, d.load())}
	var pool []api.Patch
	for _, kind := range []int{0, 4, 6} {
		for off := range 3 {
			pool = append(pool, api.Patch{Off: off, Data: d.bytes(2), Kind: kind})
		}
		pool = append(pool, api.Patch{Off: 1, Kind: kind})
	}
	fewer, n := 0, len(pool)
	for k := range n * n * n {
		l := []api.Patch{pool[k%n], pool[k/n%n], pool[k/n/n]}
		for i := range l {
			l[i].Id = i + 1
		}
		raw := l[0].Kind+l[1].Kind+l[2].Kind == 0
		for _, b := range from {
			if n := parts(t, b, l, raw); n < 4 {
				t.Fatalf("%d parts, and each first part is one: %v", n, l)
			} else if n < 8 {
				fewer++
			}
		}
	}
	if fewer == 0 {
		t.Error("nothing met")
	}
}

// 15.3: lists of eight patches of one kind, and of several, over any sector.
func TestBackAndForward(t *testing.T) {
	for seed := range 240 {
		d := dice(seed + 7000)
		b, kinds := d.block(), sets()[seed%len(sets())]
		var l []api.Patch
		for i := range 8 {
			l = append(l, d.patch(i+1, kinds...))
		}
		if n := parts(t, b, l, len(kinds) == 1 && kinds[0] == 0); n < 9 {
			t.Fatalf("seed %d: %d parts, and each first part is one", seed, n)
		}
	}
}

// 15.3: of patches of one sealed kind all that the promise leaves open is the turn: one roll comes one turn behind, two rolls two.
func TestTurnsOfParts(t *testing.T) {
	d := dice(3)
	l := []api.Patch{d.patch(1, 4), d.patch(2, 4), d.patch(3, 4)}
	for _, turn := range []uint32{0, 5, 1<<32 - 2, 1<<32 - 1} {
		b := sealed(4, turn, d.load())
		all, _ := roll.Now(b, l)
		first, _ := roll.Some(b, l, []int{1, 2})
		both, _ := roll.Now(first, roll.Without(l, []int{1, 2}))
		if loadOf(all, 4) != loadOf(both, 4) || kindOf(all) != 4 || kindOf(both) != 4 {
			t.Errorf("turn %d: %v, want, but for its turn, %v", turn, both, all)
		}
		if turnBehind(all) != turn+2 || turnBehind(both) != turn+3 {
			t.Errorf("behind turn %d: %d and %d come next, want %d and %d", turn, turnBehind(all), turnBehind(both), turn+2, turn+3)
		}
	}
}
