package num_test

import (
	"bytes"
	"math"
	"slices"
	"testing"

	"scupper/api"
	"scupper/num"
)

// samples have no bytes, few, and bytes of all ones, of noughts and of both.
func samples() [][]byte {
	return [][]byte{
		nil,
		{},
		{0},
		{255},
		{0x80},
		{0x01, 0x80},
		{255, 0},
		{0, 255},
		{0xa5, 0x3c, 0x00},
		{255, 255, 255, 0x7f},
		bytes.Repeat([]byte{255}, 16),
		bytes.Repeat([]byte{0}, 16),
	}
}

// ones tells the bits one by one, straight from the chapter's words.
func ones(b []byte) []bool {
	var l []bool
	for _, x := range b {
		for range 8 {
			l = append(l, x%2 == 1)
			x /= 2
		}
	}
	return l
}

// places are bits around those that there are, and the farthest that can be asked for.
func places(b []byte) []int {
	l := []int{math.MinInt, math.MinInt + 1, -9, -8, -2, math.MaxInt - 1, math.MaxInt}
	for i := -1; i <= 8*len(b)+9; i++ {
		l = append(l, i)
	}
	return l
}

// 1.1: numbers have their lowest byte first.
func TestGet16(t *testing.T) {
	b := []byte{1, 2, 0, 255, 255, 128}
	tests := []struct {
		at   int
		want uint16
		err  api.Errno
	}{
		{0, 513, api.OK},
		{1, 2, api.OK},
		{2, 0xff00, api.OK},
		{3, 0xffff, api.OK},
		{4, 0x80ff, api.OK},
		{5, 0, api.ErrShort},
		{6, 0, api.ErrShort},
		{7, 0, api.ErrShort},
		{-1, 0, api.ErrShort},
		{-2, 0, api.ErrShort},
		{math.MaxInt, 0, api.ErrShort},
		{math.MaxInt - 1, 0, api.ErrShort},
		{math.MinInt, 0, api.ErrShort},
	}
	for _, x := range tests {
		if got, err := num.Get16(b, x.at); got != x.want || err != x.err {
			t.Errorf("Get16 at %d: %d, %d, want %d, %d", x.at, got, err, x.want, x.err)
		}
	}
	if !bytes.Equal(b, []byte{1, 2, 0, 255, 255, 128}) {
		t.Errorf("Get16 changed its bytes: %v", b)
	}
}

// 1.1: numbers have their lowest byte first.
func TestGet32(t *testing.T) {
	b := []byte{1, 2, 3, 4, 0xff, 0xff, 0xff, 0xff}
	tests := []struct {
		at   int
		want uint32
		err  api.Errno
	}{
		{0, 0x04030201, api.OK},
		{1, 0xff040302, api.OK},
		{3, 0xffffff04, api.OK},
		{4, 0xffffffff, api.OK},
		{5, 0, api.ErrShort},
		{7, 0, api.ErrShort},
		{8, 0, api.ErrShort},
		{9, 0, api.ErrShort},
		{-1, 0, api.ErrShort},
		{-4, 0, api.ErrShort},
		{math.MaxInt, 0, api.ErrShort},
		{math.MaxInt - 3, 0, api.ErrShort},
		{math.MinInt, 0, api.ErrShort},
	}
	for _, x := range tests {
		if got, err := num.Get32(b, x.at); got != x.want || err != x.err {
			t.Errorf("Get32 at %d: %d, %d, want %d, %d", x.at, got, err, x.want, x.err)
		}
	}
	if !bytes.Equal(b, []byte{1, 2, 3, 4, 0xff, 0xff, 0xff, 0xff}) {
		t.Errorf("Get32 changed its bytes: %v", b)
	}
}

// 1.1: what lies behind a slice's end is none of its bytes.
func TestGetOfTooFewBytes(t *testing.T) {
	room := []byte{1, 2, 3, 4, 5, 6, 7, 8}
	for n := range 4 {
		for _, at := range []int{-1, 0, 1} {
			if n-at < 2 || at < 0 {
				if got, err := num.Get16(room[:n], at); got != 0 || err != api.ErrShort {
					t.Errorf("Get16 of %d bytes at %d: %d, %d", n, at, got, err)
				}
			}
			if got, err := num.Get32(room[:n], at); got != 0 || err != api.ErrShort {
				t.Errorf("Get32 of %d bytes at %d: %d, %d", n, at, got, err)
			}
		}
	}
	if got, err := num.Get16(nil, 0); got != 0 || err != api.ErrShort {
		t.Errorf("Get16 of none: %d, %d", got, err)
	}
	if got, err := num.Get32(nil, 0); got != 0 || err != api.ErrShort {
		t.Errorf("Get32 of none: %d, %d", got, err)
	}
}

// 1.1: the bytes, the lowest first.
func TestPut(t *testing.T) {
	for x, want := range map[uint16][2]byte{
		0: {}, 1: {1, 0}, 255: {255, 0}, 256: {0, 1}, 258: {2, 1}, 0x8000: {0, 0x80}, 0xffff: {255, 255},
	} {
		if got := num.Put16(x); got != want {
			t.Errorf("Put16 of %d: %v, want %v", x, got, want)
		}
	}
	for x, want := range map[uint32][4]byte{
		0: {}, 1: {1}, 256: {0, 1}, 1 << 16: {0, 0, 1}, 1 << 24: {0, 0, 0, 1},
		0x04030201: {1, 2, 3, 4}, 0x80000000: {0, 0, 0, 0x80}, 0xffffffff: {255, 255, 255, 255},
	} {
		if got := num.Put32(x); got != want {
			t.Errorf("Put32 of %d: %v, want %v", x, got, want)
		}
	}
}

// 1.2: bit i is of byte i/8, there 2 to the i modulo 8; no other one is there.
func TestBit(t *testing.T) {
	for _, b := range samples() {
		was, l := slices.Clone(b), ones(b)
		for _, i := range places(b) {
			want, wantErr := false, api.ErrArg
			if i >= 0 && i < len(l) {
				want, wantErr = l[i], api.OK
			}
			if got, err := num.Bit(b, i); got != want || err != wantErr {
				t.Errorf("Bit %d of %v: %v, %d, want %v, %d", i, b, got, err, want, wantErr)
			}
		}
		if !bytes.Equal(b, was) {
			t.Errorf("Bit changed %v to %v", was, b)
		}
	}
}

// 1.2: the bytes with that bit, in order; with an error none.
func TestWith(t *testing.T) {
	tests := []struct {
		b    []byte
		i    int
		on   bool
		want []byte
		err  api.Errno
	}{
		{[]byte{0, 0}, 0, true, []byte{1, 0}, api.OK},
		{[]byte{0, 0}, 7, true, []byte{0x80, 0}, api.OK},
		{[]byte{0, 0}, 8, true, []byte{0, 1}, api.OK},
		{[]byte{0, 0}, 15, true, []byte{0, 0x80}, api.OK},
		{[]byte{255, 0}, 3, false, []byte{247, 0}, api.OK},
		{[]byte{255, 255}, 15, false, []byte{255, 127}, api.OK},
		{[]byte{8}, 3, true, []byte{8}, api.OK},
		{[]byte{8}, 4, false, []byte{8}, api.OK},
		{[]byte{0, 0}, 16, true, nil, api.ErrArg},
		{[]byte{0, 0}, -1, true, nil, api.ErrArg},
		{[]byte{0, 0}, -8, false, nil, api.ErrArg},
		{[]byte{0, 0}, math.MaxInt, true, nil, api.ErrArg},
		{[]byte{0, 0}, math.MinInt, true, nil, api.ErrArg},
		{nil, 0, true, nil, api.ErrArg},
		{[]byte{}, 0, false, nil, api.ErrArg},
	}
	for _, x := range tests {
		was := slices.Clone(x.b)
		got, err := num.With(x.b, x.i, x.on)
		if !bytes.Equal(got, x.want) || err != x.err {
			t.Errorf("With %v, %d, %v: %v, %d, want %v, %d", x.b, x.i, x.on, got, err, x.want, x.err)
		}
		if !bytes.Equal(x.b, was) {
			t.Errorf("With changed %v to %v", was, x.b)
		}
	}
}

// 1.2: what With answers is the caller's own, whether a bit was turned or not.
func TestWithSharesNothing(t *testing.T) {
	room := []byte{8, 9, 10, 11}
	b := room[:2]
	for _, on := range []bool{true, false} {
		got, _ := num.With(b, 3, on)
		got[1] = 77
		_ = append(got, 78)
		if !bytes.Equal(room, []byte{8, 9, 10, 11}) {
			t.Fatalf("With's answer shares memory with its bytes: %v", room)
		}
	}
}

// 1.2: how many of the first n bits are 1; of as many as there are, if n is more.
func TestCount(t *testing.T) {
	for _, b := range samples() {
		was, l := slices.Clone(b), ones(b)
		for _, n := range places(b) {
			want := 0
			for i, one := range l {
				if i < n && one {
					want++
				}
			}
			if got := num.Count(b, n); got != want {
				t.Errorf("Count of %v, %d: %d, want %d", b, n, got, want)
			}
		}
		if !bytes.Equal(b, was) {
			t.Errorf("Count changed %v to %v", was, b)
		}
	}
}

// firstZero is First in the chapter's words.
func firstZero(l []bool, from, n int) int {
	for i, one := range l {
		if i >= from && i < n && !one {
			return i
		}
	}
	return -1
}

// 1.2: the first bit that is 0; from below 0, n of more bits than there are, and no such bit.
func TestFirst(t *testing.T) {
	for _, b := range samples() {
		was, l := slices.Clone(b), ones(b)
		for _, from := range places(b) {
			for _, n := range places(b) {
				want := firstZero(l, from, n)
				if got := num.First(b, from, n); got != want {
					t.Errorf("First of %v, %d, %d: %d, want %d", b, from, n, got, want)
				}
			}
		}
		if !bytes.Equal(b, was) {
			t.Errorf("First changed %v to %v", was, b)
		}
	}
}

// 1.2: some answers written out, so that no shared slip of code and test hides.
func TestCountAndFirstByHand(t *testing.T) {
	b := []byte{247, 0}
	for n, want := range map[int]int{-1: 0, 0: 0, 3: 3, 4: 3, 5: 4, 8: 7, 16: 7, 99: 7} {
		if got := num.Count(b, n); got != want {
			t.Errorf("Count of the first %d: %d, want %d", n, got, want)
		}
	}
	tests := []struct{ from, n, want int }{
		{0, 16, 3}, {-5, 16, 3}, {3, 16, 3}, {4, 16, 8}, {4, 8, -1}, {4, 9, 8}, {0, 3, -1}, {0, 4, 3},
		{15, 16, 15}, {15, 99, 15}, {16, 99, -1}, {0, 0, -1}, {0, -1, -1}, {-5, -1, -1},
	}
	for _, x := range tests {
		if got := num.First(b, x.from, x.n); got != x.want {
			t.Errorf("First from %d of %d: %d, want %d", x.from, x.n, got, x.want)
		}
	}
	if got := num.First([]byte{255, 255}, 0, 16); got != -1 {
		t.Errorf("First where all are 1: %d", got)
	}
	if got := num.First(nil, 0, 8); got != -1 {
		t.Errorf("First of no bytes: %d", got)
	}
}

// 1.3: every number of two bytes comes back, wherever it lies.
func TestBack16(t *testing.T) {
	for x := range 1 << 16 {
		p := num.Put16(uint16(x))
		at := x % 3
		b := append(bytes.Repeat([]byte{9}, at), p[:]...)
		if got, err := num.Get16(append(b, 9), at); got != uint16(x) || err != api.OK {
			t.Fatalf("%d came back as %d, %d", x, got, err)
		}
	}
}

// 1.3: each bit alone, its opposite, and numbers of all sizes come back.
func TestBack32(t *testing.T) {
	l := []uint32{0, 1, 0xffffffff, 0xdeadbeef, 0x01020304}
	for k := range 32 {
		l = append(l, 1<<k, ^uint32(1<<k))
	}
	for x, k := uint32(1), 0; k < 1000; k++ {
		x = x*1664525 + 1013904223
		l = append(l, x)
	}
	for i, x := range l {
		p := num.Put32(x)
		at := i % 5
		b := append(bytes.Repeat([]byte{9}, at), p[:]...)
		if got, err := num.Get32(append(b, 9), at); got != x || err != api.OK {
			t.Errorf("%d came back as %d, %d", x, got, err)
		}
	}
}

// 1.4: a bit that is set is set, no other one is changed, and the count goes with it.
func TestOneBit(t *testing.T) {
	for _, b := range samples() {
		all := 8 * len(b)
		for i := range all {
			for _, on := range []bool{true, false} {
				checkOne(t, b, i, on)
			}
		}
	}
}

func checkOne(t *testing.T, b []byte, i int, on bool) {
	t.Helper()
	all := 8 * len(b)
	c, err := num.With(b, i, on)
	if err != api.OK || len(c) != len(b) {
		t.Fatalf("With %v, %d, %v: %v, %d", b, i, on, c, err)
	}
	want := num.Count(b, all)
	for k := range all {
		was, _ := num.Bit(b, k)
		is, _ := num.Bit(c, k)
		switch {
		case k != i && is != was:
			t.Errorf("With %v, %d, %v changed bit %d", b, i, on, k)
		case k == i && is != on:
			t.Errorf("With %v, %d, %v: the bit is %v", b, i, on, is)
		case k == i && on && !was:
			want++
		case k == i && !on && was:
			want--
		}
	}
	if got := num.Count(c, all); got != want {
		t.Errorf("With %v, %d, %v: %d are counted, want %d", b, i, on, got, want)
	}
	if got := num.First(c, i, i+1); on && got != -1 || !on && got != i {
		t.Errorf("With %v, %d, %v: First there is %d", b, i, on, got)
	}
}
