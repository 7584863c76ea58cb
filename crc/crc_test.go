package crc_test

import (
	"bytes"
	"hash/crc32"
	"math"
	"testing"

	"scupper/api"
	"scupper/crc"
)

// known are bytes with the sums that are published for CRC-32C.
func known() []struct {
	bytes []byte
	sum   uint32
} {
	up := make([]byte, 32)
	down := make([]byte, 32)
	for i := range up {
		up[i] = byte(i)
		down[i] = byte(31 - i)
	}
	return []struct {
		bytes []byte
		sum   uint32
	}{
		{nil, 0},
		{[]byte{}, 0},
		{[]byte("a"), 0xc1d04330},
		{[]byte("123456789"), 3808858755},
		{make([]byte, 32), 0x8a9136aa},
		{bytes.Repeat([]byte{255}, 32), 0x62a8ab43},
		{up, 0x46dd794e},
		{down, 0x113fdb5c},
	}
}

// noise is n bytes that look like none in particular, the same each time.
func noise(n int, seed uint32) []byte {
	b := make([]byte, n)
	for i := range b {
		seed = seed*1664525 + 1013904223
		b[i] = byte(seed >> 24)
	}
	return b
}

// castagnoli is the library's sum, as a second opinion.
func castagnoli(b []byte) uint32 {
	return crc32.Checksum(b, crc32.MakeTable(crc32.Castagnoli))
}

// stepped is a register after so many single steps, by the chapter's words.
func stepped(reg uint32, steps int) uint32 {
	for range steps {
		out := reg % 2
		reg /= 2
		if out == 1 {
			reg ^= 2197175160
		}
	}
	return reg
}

// cuts are parts of b, cut at i and at j.
func cuts(b []byte, i, j int) [][]byte { return [][]byte{b[:i], b[i:j], b[j:]} }

// 2.1: Of is the sum of all, one behind the other.
func TestOf(t *testing.T) {
	for _, k := range known() {
		if got := crc.Of(k.bytes); got != k.sum {
			t.Errorf("Of(%x): %d, want %d", k.bytes, got, k.sum)
		}
	}
	for n := range 200 {
		b := noise(n, uint32(n))
		if got, want := crc.Of(b), castagnoli(b); got != want {
			t.Errorf("Of of %d bytes: %d, want %d", n, got, want)
		}
	}
	for x := range 256 {
		b := []byte{byte(x)}
		if got, want := crc.Of(b), ^stepped(math.MaxUint32^uint32(x), 8); got != want {
			t.Errorf("Of(%x): %d, want %d", b, got, want)
		}
	}
}

// 2.1: no parts, and parts without bytes, are nothing.
func TestOfNothing(t *testing.T) {
	for _, parts := range [][][]byte{nil, {}, {nil}, {{}}, {nil, {}, nil}} {
		if got := crc.Of(parts...); got != 0 {
			t.Errorf("Of(%v): %d, want 0", parts, got)
		}
	}
	want := uint32(3808858755)
	if got := crc.Of(nil, []byte("1234"), nil, []byte{}, []byte("56789"), nil); got != want {
		t.Errorf("Of with parts without bytes: %d, want %d", got, want)
	}
	if got := crc.Of([]byte("56789"), []byte("1234")); got != crc.Of([]byte("567891234")) || got == want {
		t.Errorf("Of of parts the other way round: %d", got)
	}
}

// 2.1: Begin is a sum of nothing.
func TestBegin(t *testing.T) {
	s := crc.Begin()
	if s != (crc.Sum{Reg: math.MaxUint32, N: 0}) {
		t.Errorf("Begin: %+v", s)
	}
	if s.Value() != 0 || s.Len() != 0 {
		t.Errorf("of Begin: %d, %d, want 0, 0", s.Value(), s.Len())
	}
}

// 2.1: Add puts bytes behind; Value and Len tell of it.
func TestAdd(t *testing.T) {
	for _, k := range known() {
		s := crc.Begin().Add(k.bytes)
		if s.Value() != k.sum || s.Reg != ^k.sum {
			t.Errorf("Add(%x): %+v, Value %d, want %d", k.bytes, s, s.Value(), k.sum)
		}
		if s.Len() != len(k.bytes) || s.N != len(k.bytes) {
			t.Errorf("Add(%x): Len %d, N %d, want %d", k.bytes, s.Len(), s.N, len(k.bytes))
		}
	}
	s := crc.Begin().Add([]byte("1234")).Add(nil).Add([]byte{}).Add([]byte("56789"))
	if s.Value() != 3808858755 || s.Len() != 9 {
		t.Errorf("1234 and 56789: %d, %d", s.Value(), s.Len())
	}
}

// 2.1: a sum is a value: what is added to one leaves it, and others made of it, as they were.
func TestAddLeavesSum(t *testing.T) {
	a := crc.Begin().Add([]byte("12"))
	was := a
	b := a.Add([]byte("34"))
	c := a.Add([]byte("56"))
	if a != was {
		t.Errorf("a sum became %+v, was %+v", a, was)
	}
	if b.Value() != crc.Of([]byte("1234")) || c.Value() != crc.Of([]byte("1256")) {
		t.Errorf("two sums of one: %d, %d", b.Value(), c.Value())
	}
}

// 2.1: the fields alone say what a sum is, also where no call made it.
func TestAnySum(t *testing.T) {
	for _, s := range []crc.Sum{{}, {Reg: 5, N: 7}, {Reg: 1 << 31, N: -3}, {Reg: math.MaxUint32, N: 1 << 40}} {
		if s.Value() != math.MaxUint32-s.Reg || s.Len() != s.N {
			t.Errorf("%+v: %d, %d", s, s.Value(), s.Len())
		}
		if got := s.Add(nil); got != s {
			t.Errorf("%+v with nothing: %+v", s, got)
		}
		want := crc.Sum{Reg: stepped(stepped(s.Reg^7, 8)^200, 8), N: s.N + 2}
		if got := s.Add([]byte{7, 200}); got != want {
			t.Errorf("%+v with two bytes: %+v, want %+v", s, got, want)
		}
	}
}

// 2.2: Shift is what a register is when so many bytes 0 entered it.
func TestShift(t *testing.T) {
	for _, a := range []uint32{0, 1, 5, 128, 255, 256, 1 << 31, 2197175160, 0xdeadbeef, math.MaxUint32} {
		for _, n := range []int{0, 1, 2, 3, 4, 5, 8, 54, 64, 1000, 65535, 65536} {
			got, e := crc.Shift(a, n)
			if want := stepped(a, 8*n); got != want || e != api.OK {
				t.Errorf("Shift(%d, %d): %d, %v, want %d", a, n, got, e, want)
			}
			s := crc.Sum{Reg: a}.Add(make([]byte, n))
			if s.Reg != got {
				t.Errorf("%d bytes 0 added to register %d: %d, want %d", n, a, s.Reg, got)
			}
		}
	}
	if got, e := crc.Shift(1, 1); got != 0xf26b8303 || e != api.OK {
		t.Errorf("Shift(1, 1): %#x, %v", got, e)
	}
}

// 2.2: Join is Shift's answer and b, without carry.
func TestJoin(t *testing.T) {
	for _, a := range []uint32{0, 1, 0xe3069283, math.MaxUint32} {
		for _, b := range []uint32{0, 1, 0x8a9136aa, math.MaxUint32} {
			for _, n := range []int{0, 1, 5, 64, 65536} {
				got, e := crc.Join(a, b, n)
				if want := stepped(a, 8*n) ^ b; got != want || e != api.OK {
					t.Errorf("Join(%d, %d, %d): %d, %v, want %d", a, b, n, got, e, want)
				}
			}
		}
	}
}

// 2.2, P1: a number of bytes below 0, or above 65536, is refused, with nothing else told.
func TestWrongNumbers(t *testing.T) {
	for _, n := range []int{math.MinInt, -65536, -1, 65537, 1 << 32, math.MaxInt} {
		for _, a := range []uint32{0, 5, math.MaxUint32} {
			if got, e := crc.Shift(a, n); got != 0 || e != api.ErrArg {
				t.Errorf("Shift(%d, %d): %d, %v", a, n, got, e)
			}
			if got, e := crc.Join(a, 7, n); got != 0 || e != api.ErrArg {
				t.Errorf("Join(%d, 7, %d): %d, %v", a, n, got, e)
			}
		}
	}
}

// 2.3: the sum hangs on no pieces.
func TestPieces(t *testing.T) {
	b := noise(40, 1)
	want := castagnoli(b)
	for i := range len(b) + 1 {
		for j := i; j <= len(b); j++ {
			p := cuts(b, i, j)
			if got := crc.Of(p...); got != want {
				t.Errorf("cut at %d and %d: %d, want %d", i, j, got, want)
			}
			s := crc.Begin().Add(p[0]).Add(p[1]).Add(p[2])
			if s.Value() != want || s.Len() != len(b) {
				t.Errorf("added, cut at %d and %d: %d of %d, want %d", i, j, s.Value(), s.Len(), want)
			}
		}
	}
	var ones [][]byte
	for i := range b {
		ones = append(ones, b[i:i+1])
	}
	if got := crc.Of(ones...); got != want {
		t.Errorf("byte by byte: %d, want %d", got, want)
	}
}

// 2.4: sums joined are the sum of both, by how many the others are.
func TestJoined(t *testing.T) {
	b := noise(130, 2)
	for i := range len(b) + 1 {
		got, e := crc.Join(crc.Of(b[:i]), crc.Of(b[i:]), len(b)-i)
		if want := crc.Of(b); got != want || e != api.OK {
			t.Errorf("joined at %d: %d, %v, want %d", i, got, e, want)
		}
	}
	long := noise(65536+9, 3)
	got, e := crc.Join(crc.Of(long[:9]), crc.Of(long[9:]), 65536)
	if want := castagnoli(long); got != want || e != api.OK {
		t.Errorf("joined with 65536 bytes: %d, %v, want %d", got, e, want)
	}
}

// 2.5: bytes of which just one is turned have another sum: by a bit, by some, or by all.
func TestOneTurned(t *testing.T) {
	for _, n := range []int{1, 2, 54, 64} {
		b := noise(n, uint32(n))
		was := crc.Of(b)
		for i := range b {
			for x := 1; x < 256; x++ {
				b[i] ^= byte(x)
				if crc.Of(b) == was {
					t.Errorf("%d bytes, byte %d turned by %d: the sum is as it was", n, i, x)
				}
				b[i] ^= byte(x)
			}
		}
	}
}

// Rule 4: what is handed in is not changed.
func TestBytesLeft(t *testing.T) {
	a, b := noise(50, 4), noise(14, 5)
	wasA, wasB := bytes.Clone(a), bytes.Clone(b)
	crc.Of(a, b, a)
	crc.Begin().Add(a).Add(b)
	if !bytes.Equal(a, wasA) || !bytes.Equal(b, wasB) {
		t.Error("bytes that were handed in are changed")
	}
}

// Rule 4: nothing of what is handed in is kept: a sum stays when the bytes are changed later.
func TestBytesNotKept(t *testing.T) {
	a := []byte("1234")
	s := crc.Begin().Add(a)
	a[0] = 'x'
	if got := s.Add([]byte("56789")).Value(); got != 3808858755 {
		t.Errorf("the sum became %d", got)
	}
}
