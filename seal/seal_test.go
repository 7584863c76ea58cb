package seal_test

import (
	"encoding/binary"
	"hash/crc32"
	"math"
	"testing"

	"scupper/api"
	"scupper/seal"
)

// kinds are all that there are.
func kinds() []int { return []int{1, 2, 3, 4, 5, 6} }

// noKinds are numbers that are no kinds; as a byte alone some would be one.
func noKinds() []int {
	return []int{0, 7, -1, -2, -6, 8, 249, 255, 256, 257, 260, 262, -252, -250, 1<<32 + 4, math.MinInt, math.MinInt + 4, math.MaxInt}
}

// turns are some, the first, and the last ones ahead of where they go round.
func turns() []uint32 {
	return []uint32{0, 1, 2, 255, 256, 0x04030201, 1 << 31, math.MaxUint32 - 1, math.MaxUint32}
}

// filled is a load of one byte.
func filled(x byte) api.Load {
	var p api.Load
	for i := range p {
		p[i] = x
	}
	return p
}

// mixed is a load of which no two bytes near each other are the same.
func mixed() api.Load {
	var p api.Load
	for i := range p {
		p[i] = byte(i*37 + 11)
	}
	return p
}

// loads are some: noughts, 255s, others, and those that differ from noughts at one end alone.
func loads() []api.Load {
	return []api.Load{{}, filled(255), mixed(), {0: 1}, {53: 128}}
}

// summed is b with the sum, by the library's own check sums, of all ahead of it.
func summed(b api.Block) api.Block {
	binary.LittleEndian.PutUint32(b[60:], crc32.Checksum(b[:60], crc32.MakeTable(crc32.Castagnoli)))
	return b
}

// laid is a sector with these bytes where kind, and 255 less it, lie, and a sum that is so.
func laid(kind, less byte, turn uint32, p api.Load) api.Block {
	var b api.Block
	for i, x := range p {
		b[i] = x
	}
	b[54], b[55] = kind, less
	binary.LittleEndian.PutUint32(b[56:], turn)
	return summed(b)
}

// right is the sealed sector, by the chapter's words.
func right(kind int, turn uint32, p api.Load) api.Block {
	return laid(byte(kind), byte(255-kind), turn, p)
}

// turned is b with byte i turned by x.
func turned(b api.Block, i int, x byte) api.Block {
	b[i] ^= x
	return b
}

// samples are sealed sectors, of all kinds, of turns and loads of all sorts.
func samples() []api.Block {
	var l []api.Block
	for _, kind := range kinds() {
		for _, turn := range turns() {
			for _, p := range loads() {
				l = append(l, right(kind, turn, p))
			}
		}
	}
	return l
}

// wrongs are sectors that are right of no kind, each with why.
func wrongs() map[string]api.Block {
	p := mixed()
	b := right(4, 7, p)
	var full api.Block
	for i := range full {
		full[i] = 255
	}
	ofLoad, highFirst, unturned := b, b, b
	binary.LittleEndian.PutUint32(ofLoad[60:], crc32.Checksum(b[:54], crc32.MakeTable(crc32.Castagnoli)))
	binary.BigEndian.PutUint32(highFirst[60:], binary.LittleEndian.Uint32(b[60:]))
	binary.LittleEndian.PutUint32(unturned[60:], ^binary.LittleEndian.Uint32(b[60:]))
	return map[string]api.Block{
		"noughts":                   {},
		"noughts with their sum":    summed(api.Block{}),
		"255s":                      full,
		"255s with their sum":       summed(full),
		"kind 0":                    laid(0, 255, 7, p),
		"kind 7":                    laid(7, 248, 7, p),
		"kind 255":                  laid(255, 0, 7, p),
		"kind 251, and 4":           laid(251, 4, 7, p),
		"a kind alone wrong":        laid(5, 251, 7, p),
		"kind 0 alone wrong":        laid(0, 251, 7, p),
		"255 less it alone wrong":   laid(4, 250, 7, p),
		"255 less it alone 0":       laid(4, 0, 7, p),
		"255 less it the kind":      laid(4, 4, 7, p),
		"256 less it":               laid(4, 252, 7, p),
		"a sum of noughts":          turned(turned(turned(turned(b, 60, b[60]), 61, b[61]), 62, b[62]), 63, b[63]),
		"a sum wrong in its first":  turned(b, 60, 1),
		"a sum wrong in its last":   turned(b, 63, 128),
		"a sum of the load alone":   ofLoad,
		"a sum's highest first":     highFirst,
		"a sum that is not turned":  unturned,
		"a turn of another sum":     turned(b, 56, 1),
		"a load of another sum":     turned(b, 0, 1),
		"a load's last, likewise":   turned(b, 53, 1),
		"the load alone, no seal":   func() (c api.Block) { copy(c[:54], b[:54]); return }(),
		"the seal alone, no load":   func() (c api.Block) { copy(c[54:], b[54:]); return }(),
		"moved by one byte forward": func() (c api.Block) { copy(c[1:], b[:]); return }(),
	}
}

// refused holds that Get of that kind tells the error, and noughts.
func refused(t *testing.T, what string, kind int, b api.Block, want api.Errno) {
	t.Helper()
	if p, turn, e := seal.Get(kind, b); e != want || p != (api.Load{}) || turn != 0 {
		t.Errorf("%s: get %d: load %v, turn %d, error %d, want noughts, error %d", what, kind, p, turn, e, want)
	}
}

// ofNone holds that b is right of no kind.
func ofNone(t *testing.T, what string, b api.Block) {
	t.Helper()
	if got := seal.Kind(b); got != 0 {
		t.Errorf("%s: kind %d, want 0", what, got)
	}
	for _, kind := range kinds() {
		refused(t, what, kind, b, api.ErrSeal)
	}
}

// same holds what Same says, both ways round, against what is asked for.
func same(t *testing.T, what string, a, b api.Block, want bool) {
	t.Helper()
	if got, back := seal.Same(a, b), seal.Same(b, a); got != want || back != want {
		t.Errorf("%s: same %v, and the other way round %v, want %v", what, got, back, want)
	}
}

// 7.1: the chapter's example, and another one, byte by byte.
func TestPutByHand(t *testing.T) {
	var want api.Block
	copy(want[54:], []byte{4, 251, 1, 0, 0, 0, 237, 72, 150, 117})
	if b, e := seal.Put(4, 1, api.Load{}); b != want || e != api.OK {
		t.Errorf("put 4, 1, noughts: %v, error %d, want %v", b, e, want)
	}
	for i := range 54 {
		want[i] = 255
	}
	copy(want[54:], []byte{1, 254, 255, 255, 255, 255, 33, 158, 163, 236})
	if b, e := seal.Put(1, math.MaxUint32, filled(255)); b != want || e != api.OK {
		t.Errorf("put 1, the greatest turn, 255s: %v, error %d, want %v", b, e, want)
	}
}

// 7.1: Put is the load, and behind it the seal.
func TestPut(t *testing.T) {
	for _, kind := range kinds() {
		for _, turn := range turns() {
			for _, p := range loads() {
				b, e := seal.Put(kind, turn, p)
				if want := right(kind, turn, p); b != want || e != api.OK {
					t.Errorf("put %d, %d, %v: %v, error %d, want %v", kind, turn, p, b, e, want)
				}
			}
		}
	}
}

// 7.1: Put and Get tell ErrArg where there is no such kind, ahead of ErrSeal, and nothing else.
func TestNoKind(t *testing.T) {
	for _, kind := range noKinds() {
		for _, p := range loads() {
			if b, e := seal.Put(kind, 9, p); b != (api.Block{}) || e != api.ErrArg {
				t.Errorf("put %d: %v, error %d, want noughts, error 2", kind, b, e)
			}
		}
		for _, b := range samples() {
			refused(t, "a sealed sector", kind, b, api.ErrArg)
		}
		for what, b := range wrongs() {
			refused(t, what, kind, b, api.ErrArg)
		}
	}
}

// 7.1: a sector of the number asked for, which is no kind, is not told either.
func TestNoKindAsked(t *testing.T) {
	for _, kind := range []int{0, 7, 8, 255} {
		refused(t, "a sector of that number", kind, right(kind, 1, mixed()), api.ErrArg)
	}
}

// 7.1: Get tells the load and the turn of a sector that is right of the kind asked for, ErrSeal of one of another kind.
func TestGet(t *testing.T) {
	for _, is := range kinds() {
		for _, turn := range turns() {
			for _, p := range loads() {
				b := right(is, turn, p)
				for _, kind := range kinds() {
					if kind != is {
						refused(t, "a sector of another kind", kind, b, api.ErrSeal)
						continue
					}
					if q, n, e := seal.Get(kind, b); q != p || n != turn || e != api.OK {
						t.Errorf("get %d: %v, turn %d, error %d, want %v, turn %d", kind, q, n, e, p, turn)
					}
				}
			}
		}
	}
}

// 7.1: Kind tells each kind, whatever turn and load.
func TestKind(t *testing.T) {
	for _, kind := range kinds() {
		for _, turn := range turns() {
			for _, p := range loads() {
				if got := seal.Kind(right(kind, turn, p)); got != kind {
					t.Errorf("kind of a sector of %d, turn %d, %v: %d", kind, turn, p, got)
				}
			}
		}
	}
}

// 7.1: of all bytes that a kind, and 255 less it, could be, the sum being so, just the six kinds are right.
func TestKindBytes(t *testing.T) {
	p := mixed()
	for kind := range 256 {
		for less := range 256 {
			want := 0
			if kind >= 1 && kind <= 6 && kind+less == 255 {
				want = kind
			}
			if got := seal.Kind(laid(byte(kind), byte(less), 3, p)); got != want {
				t.Errorf("kind of a sector with %d, %d: %d, want %d", kind, less, got, want)
			}
		}
	}
}

// 7.1: a sector whose kind, 255 less it, or sum is not so is right of no kind.
func TestWrong(t *testing.T) {
	for what, b := range wrongs() {
		ofNone(t, what, b)
	}
}

// 7.2: Next's turn is one more than that of a sector that is right, of whichever kind; it goes round.
func TestNext(t *testing.T) {
	more := map[uint32]uint32{0: 1, 1: 2, 2: 3, 255: 256, 256: 257, 0x04030201: 0x04030202,
		1 << 31: 1<<31 + 1, math.MaxUint32 - 1: math.MaxUint32, math.MaxUint32: 0}
	for _, was := range kinds() {
		for _, kind := range kinds() {
			for _, turn := range turns() {
				b, e := seal.Next(kind, right(was, turn, filled(77)), mixed())
				if want := right(kind, more[turn], mixed()); b != want || e != api.OK {
					t.Errorf("next %d behind one of %d, turn %d: %v, error %d, want %v", kind, was, turn, b, e, want)
				}
			}
		}
	}
}

// 7.2: the load is the one that is handed in, also if it is that which was.
func TestNextLoad(t *testing.T) {
	for _, had := range loads() {
		for _, p := range loads() {
			b, e := seal.Next(6, right(6, 41, had), p)
			if want := right(6, 42, p); b != want || e != api.OK {
				t.Errorf("next of %v behind %v: %v, error %d, want %v", p, had, b, e, want)
			}
		}
	}
}

// 7.2: behind a sector that is right of no kind the turn is 1, whatever turn it seems to have.
func TestNextOfWrong(t *testing.T) {
	for what, was := range wrongs() {
		for _, kind := range kinds() {
			b, e := seal.Next(kind, was, mixed())
			if want := right(kind, 1, mixed()); b != want || e != api.OK {
				t.Errorf("next %d behind %s: %v, error %d, want %v", kind, what, b, e, want)
			}
		}
	}
}

// 7.2: Next tells ErrArg, and noughts, where there is no such kind, whatever was.
func TestNextNoKind(t *testing.T) {
	was := wrongs()
	was["a sealed sector"] = right(3, 5, mixed())
	for what, b := range was {
		for _, kind := range noKinds() {
			if got, e := seal.Next(kind, b, mixed()); got != (api.Block{}) || e != api.ErrArg {
				t.Errorf("next %d behind %s: %v, error %d, want noughts, error 2", kind, what, got, e)
			}
		}
	}
}

// 7.2: one behind the other, from nothing on, sectors have turns 1, 2, 3 ..
func TestNextRow(t *testing.T) {
	var b api.Block
	for n := range 300 {
		kind := 1 + n%6
		var e api.Errno
		b, e = seal.Next(kind, b, filled(byte(n)))
		if want := right(kind, uint32(n+1), filled(byte(n))); b != want || e != api.OK {
			t.Fatalf("the %d-th: %v, error %d, want %v", n, b, e, want)
		}
	}
}

// 7.2: of sectors that are right kinds and loads are held against each other, turns are not.
func TestSameRight(t *testing.T) {
	for _, kindA := range kinds() {
		for _, kindB := range kinds() {
			for i, p := range loads() {
				for j, q := range loads() {
					a, b := right(kindA, 1, p), right(kindB, math.MaxUint32, q)
					same(t, "two sealed sectors", a, b, kindA == kindB && i == j)
				}
			}
		}
	}
	for _, m := range turns() {
		for _, n := range turns() {
			same(t, "two turns", right(2, m, mixed()), right(2, n, mixed()), true)
		}
	}
}

// 7.2: loads of which any one byte differs are not the same.
func TestSameLoads(t *testing.T) {
	for i := range api.Payload {
		p := mixed()
		p[i] ^= 32
		same(t, "loads that differ", right(5, 8, mixed()), right(5, 8, p), false)
		same(t, "loads that differ, and turns", right(5, 8, mixed()), right(5, 9, p), false)
	}
}

// 7.2: of sectors that are right of no kind the bytes are held against each other, each of them.
func TestSameWrong(t *testing.T) {
	for what, a := range wrongs() {
		same(t, what+", twice", a, a, true)
		for other, b := range wrongs() {
			same(t, what+", "+other, a, b, a == b)
		}
	}
	// One load and kind, but other turns, of which no sum is so: the turns are bytes like others.
	a, b := turned(right(4, 1, mixed()), 60, 1), turned(right(4, 2, mixed()), 60, 1)
	same(t, "two turns of wrong sums", a, b, false)
	for i := range api.Sector {
		same(t, "noughts, and one byte", api.Block{}, turned(api.Block{}, i, 4), false)
	}
}

// 7.2: one that is right and one that is not are never the same, alike as they may be.
func TestSameMixed(t *testing.T) {
	for what, b := range wrongs() {
		for _, kind := range kinds() {
			same(t, what, b, right(kind, 7, mixed()), false)
		}
	}
	b := right(4, 7, mixed())
	for i := range b {
		same(t, "one byte turned", b, turned(b, i, 1), false)
	}
	same(t, "noughts without a seal", api.Block{}, right(1, 0, api.Load{}), false)
}

// 7.3: what was put is got, and is of its kind; so is what comes behind it.
func TestBack(t *testing.T) {
	for _, kind := range kinds() {
		for _, turn := range turns() {
			for _, p := range loads() {
				b, e := seal.Put(kind, turn, p)
				q, n, f := seal.Get(kind, b)
				if e != api.OK || f != api.OK || q != p || n != turn || seal.Kind(b) != kind {
					t.Errorf("put %d, %d, %v: error %d; got %v, %d, error %d, kind %d", kind, turn, p, e, q, n, f, seal.Kind(b))
				}
				c, e := seal.Next(kind, b, p)
				q, n, f = seal.Get(kind, c)
				if e != api.OK || f != api.OK || q != p || n != turn+1 || !seal.Same(b, c) {
					t.Errorf("next behind %d, %d, %v: error %d; got %v, %d, error %d, same %v", kind, turn, p, e, q, n, f, seal.Same(b, c))
				}
			}
		}
	}
}

// 7.4: one byte turned, whichever, by whatever, leaves a sector right of no kind.
func TestOneTurned(t *testing.T) {
	for _, kind := range kinds() {
		b, e := seal.Put(kind, uint32(kind)*0x01234567, mixed())
		if e != api.OK || seal.Kind(b) != kind {
			t.Fatalf("put %d: error %d", kind, e)
		}
		for i := range b {
			for x := 1; x < 256; x++ {
				c := turned(b, i, byte(x))
				if got := seal.Kind(c); got != 0 {
					t.Errorf("kind %d, byte %d turned by %d: kind %d, want 0", kind, i, x, got)
				}
				refused(t, "one byte turned", kind, c, api.ErrSeal)
			}
		}
	}
}

// 7.4: likewise of all sorts of turns and loads, a bit, or all of them, of the byte turned.
func TestOneTurnedOfAll(t *testing.T) {
	for _, b := range samples() {
		for i := range b {
			for _, x := range []byte{1, 128, 255} {
				if got := seal.Kind(turned(b, i, x)); got != 0 {
					t.Errorf("%v, byte %d turned by %d: kind %d, want 0", b, i, x, got)
				}
			}
		}
	}
	b := right(6, math.MaxUint32, filled(255))
	for i := range b {
		ofNone(t, "one byte turned", turned(b, i, 255))
	}
}
