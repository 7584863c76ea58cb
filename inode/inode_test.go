package inode_test

import (
	"bytes"
	"math"
	"testing"

	"scupper/api"
	"scupper/inode"
)

// pair is an inode, and its bytes, written out, so that no shared slip of code and test hides.
type pair struct {
	name string
	x    api.Inode
	b    [18]byte
}

func pairs() []pair {
	return []pair{
		{"free", api.Inode{}, [18]byte{}},
		{"empty file", api.Inode{Kind: 1, Links: 1}, [18]byte{1, 1}},
		{"file", api.Inode{Kind: 1, Links: 3, Size: 1000, Direct: [4]uint16{21, 300, 2047, 256}, Single: 513, Double: 1025},
			[18]byte{1, 3, 232, 3, 0, 0, 21, 0, 44, 1, 255, 7, 0, 1, 1, 2, 1, 4}},
		{"directory", api.Inode{Kind: 2, Links: 1, Size: 128, Direct: [4]uint16{1, 2, 3, 4}, Single: 5, Double: 258},
			[18]byte{2, 1, 128, 0, 0, 0, 1, 0, 2, 0, 3, 0, 4, 0, 5, 0, 2, 1}},
		{"the most that may be", api.Inode{Kind: 2, Links: 200, Size: 48640, Direct: [4]uint16{2047, 2046, 2045, 2044}, Single: 2043, Double: 2042},
			[18]byte{2, 200, 0, 190, 0, 0, 255, 7, 254, 7, 253, 7, 252, 7, 251, 7, 250, 7}},
		{"each byte another", api.Inode{Kind: 1, Links: 2, Size: 0x06050403, Direct: [4]uint16{0x0807, 0x0a09, 0x0c0b, 0x0e0d}, Single: 0x100f, Double: 0x1211},
			[18]byte{1, 2, 3, 4, 5, 6, 7, 8, 9, 10, 11, 12, 13, 14, 15, 16, 17, 18}},
		{"greatest kind", api.Inode{Kind: 255}, [18]byte{0: 255}},
		{"greatest names", api.Inode{Links: 255}, [18]byte{1: 255}},
		{"greatest size", api.Inode{Size: math.MaxUint32}, [18]byte{2: 255, 3: 255, 4: 255, 5: 255}},
		{"greatest block 0", api.Inode{Direct: [4]uint16{0: math.MaxUint16}}, [18]byte{6: 255, 7: 255}},
		{"greatest block 1", api.Inode{Direct: [4]uint16{1: math.MaxUint16}}, [18]byte{8: 255, 9: 255}},
		{"greatest block 2", api.Inode{Direct: [4]uint16{2: math.MaxUint16}}, [18]byte{10: 255, 11: 255}},
		{"greatest block 3", api.Inode{Direct: [4]uint16{3: math.MaxUint16}}, [18]byte{12: 255, 13: 255}},
		{"greatest pointers", api.Inode{Single: math.MaxUint16}, [18]byte{14: 255, 15: 255}},
		{"greatest pointers to pointers", api.Inode{Double: math.MaxUint16}, [18]byte{16: 255, 17: 255}},
		{"greatest of all", api.Inode{Kind: 255, Links: 255, Size: math.MaxUint32, Direct: [4]uint16{65535, 65535, 65535, 65535}, Single: 65535, Double: 65535},
			[18]byte{255, 255, 255, 255, 255, 255, 255, 255, 255, 255, 255, 255, 255, 255, 255, 255, 255, 255}},
	}
}

// one is noughts with the byte v at that place.
func one(at int, v byte) [18]byte {
	var b [18]byte
	b[at] = v
	return b
}

// anyBytes are bytes that are alike, those with one of them alone, and those of no order.
func anyBytes() [][18]byte {
	var l [][18]byte
	r := uint32(11)
	for v := range 256 {
		var alike, mixed [18]byte
		for i := range alike {
			r = r*1664525 + 1013904223
			alike[i], mixed[i] = byte(v), byte(r>>24)
			l = append(l, one(i, byte(v)))
		}
		l = append(l, alike, mixed)
	}
	return l
}

// read is the inode of these bytes in the chapter's words.
func read(b [18]byte) api.Inode {
	two := func(at int) uint16 { return uint16(b[at]) + 256*uint16(b[at+1]) }
	return api.Inode{
		Kind: b[0], Links: b[1], Size: uint32(two(2)) + 65536*uint32(two(4)),
		Direct: [4]uint16{two(6), two(8), two(10), two(12)}, Single: two(14), Double: two(16),
	}
}

// loads are noughts, all bits, each byte its own place, and bytes of no order.
func loads() []api.Load {
	var full, places, mixed api.Load
	r := uint32(5)
	for i := range full {
		r = r*1664525 + 1013904223
		full[i], places[i], mixed[i] = 255, byte(i+1), byte(r>>24)
	}
	return []api.Load{{}, full, places, mixed}
}

// laid is p with the bytes b from at on.
func laid(p api.Load, at int, b []byte) api.Load {
	for i, v := range b {
		p[at+i] = v
	}
	return p
}

// noSlots are slots that may not be; eighteen times some of them wraps round to a place in the load, and some would be slots if they were cut to a byte, two or four.
func noSlots() []int {
	return []int{-1, -2, -3, 3, 4, 17, 18, 54, 255, 256, 257, 258, 65536, 65538, 1 << 32, 1<<32 + 2, 1 << 62, 1<<62 + 1, math.MinInt, math.MinInt + 1, math.MinInt + 2, math.MaxInt - 1, math.MaxInt}
}

// noFields are fields that may not be; cut to a byte, two or four, some of them would be.
func noFields() []inode.Field {
	return []inode.Field{-1, -2, -9, 10, 11, 12, 18, 255, 256, 258, 265, 65536, 65545, 1 << 32, 1<<32 + 9, math.MinInt, math.MinInt + 1, math.MinInt + 9, math.MaxInt - 1, math.MaxInt}
}

// part is a field: where in an inode's bytes it lies, and how many it has.
type part struct {
	f        inode.Field
	at, size int
}

// parts are all fields, by their numbers.
func parts() []part {
	return []part{{0, 0, 18}, {1, 1, 1}, {2, 2, 4}, {3, 6, 2}, {4, 8, 2}, {5, 10, 2}, {6, 12, 2}, {7, 14, 2}, {8, 16, 2}, {9, 2, 16}}
}

// judged is Check in the chapter's words.
func judged(x api.Inode) api.Errno {
	free := x == api.Inode{}
	file := x.Kind == 1 && x.Links <= 200 && x.Size <= 48640
	dir := x.Kind == 2 && x.Links <= 200 && x.Size <= 48640 && x.Size%64 == 0
	if free || file || dir {
		return api.OK
	}
	return api.ErrArg
}

func checkIs(t *testing.T, x api.Inode, want api.Errno) {
	t.Helper()
	if e := inode.Check(x); e != want {
		t.Errorf("check of %v: error %d, want %d", x, e, want)
	}
}

// 10.1: kinds 0, 1 and 2 may be, and no other one.
func TestCheckKinds(t *testing.T) {
	for kind := range 256 {
		want := api.ErrArg
		if kind <= 2 {
			want = api.OK
		}
		checkIs(t, api.Inode{Kind: uint8(kind)}, want)
	}
	for kind := 3; kind < 256; kind++ {
		checkIs(t, api.Inode{Kind: uint8(kind), Links: 1, Size: 64, Direct: [4]uint16{9}}, api.ErrArg)
	}
}

// 10.1: files and directories have at most MaxLinks names.
func TestCheckLinks(t *testing.T) {
	for _, kind := range []uint8{1, 2} {
		for links := range 256 {
			want := api.OK
			if links > 200 {
				want = api.ErrArg
			}
			checkIs(t, api.Inode{Kind: kind, Links: uint8(links), Size: 64}, want)
		}
	}
}

// 10.1: the limits as api names them, one less and one more.
func TestCheckLimits(t *testing.T) {
	for _, c := range []struct {
		x    api.Inode
		want api.Errno
	}{
		{api.Inode{Kind: api.InodeFile, Links: api.MaxLinks - 1}, api.OK},
		{api.Inode{Kind: api.InodeFile, Links: api.MaxLinks}, api.OK},
		{api.Inode{Kind: api.InodeFile, Links: api.MaxLinks + 1}, api.ErrArg},
		{api.Inode{Kind: api.InodeDir, Links: api.MaxLinks - 1}, api.OK},
		{api.Inode{Kind: api.InodeDir, Links: api.MaxLinks}, api.OK},
		{api.Inode{Kind: api.InodeDir, Links: api.MaxLinks + 1}, api.ErrArg},
		{api.Inode{Kind: api.InodeFile, Size: api.MaxSize - 1}, api.OK},
		{api.Inode{Kind: api.InodeFile, Size: api.MaxSize}, api.OK},
		{api.Inode{Kind: api.InodeFile, Size: api.MaxSize + 1}, api.ErrArg},
		{api.Inode{Kind: api.InodeDir, Size: api.MaxSize - 64}, api.OK},
		{api.Inode{Kind: api.InodeDir, Size: api.MaxSize - 1}, api.ErrArg},
		{api.Inode{Kind: api.InodeDir, Size: api.MaxSize}, api.OK},
		{api.Inode{Kind: api.InodeDir, Size: api.MaxSize + 1}, api.ErrArg},
		{api.Inode{Kind: api.InodeDir, Size: api.MaxSize + 64}, api.ErrArg},
		{api.Inode{Kind: api.InodeFile, Links: api.MaxLinks, Size: api.MaxSize}, api.OK},
		{api.Inode{Kind: api.InodeDir, Links: api.MaxLinks, Size: api.MaxSize}, api.OK},
	} {
		checkIs(t, c.x, c.want)
	}
}

// 10.1: every size up to MaxSize and some behind it; of a directory the multiples of 64 alone.
func TestCheckSizes(t *testing.T) {
	for size := range uint32(api.MaxSize + 200) {
		for _, kind := range []uint8{1, 2} {
			x := api.Inode{Kind: kind, Links: 1, Size: size}
			checkIs(t, x, judged(x))
		}
	}
	// Cut to two bytes, most of these would be sizes.
	for _, size := range []uint32{65535, 65536, 65537, 65600, 1 << 24, 1<<31 - 1, 1 << 31, 1<<31 + 64, math.MaxUint32 - 63, math.MaxUint32} {
		checkIs(t, api.Inode{Kind: 1, Links: 1, Size: size}, api.ErrArg)
		checkIs(t, api.Inode{Kind: 2, Links: 1, Size: size}, api.ErrArg)
	}
}

// 10.1: of a free inode all else is 0: any byte of its fields that is not makes it one that may not be.
func TestCheckFree(t *testing.T) {
	checkIs(t, api.Inode{}, api.OK)
	for i := 1; i < 18; i++ {
		for v := 1; v < 256; v++ {
			checkIs(t, read(one(i, byte(v))), api.ErrArg)
		}
	}
	for _, x := range []api.Inode{
		{Links: 1}, {Size: 1}, {Size: 64}, {Direct: [4]uint16{1}}, {Direct: [4]uint16{0, 1}}, {Direct: [4]uint16{0, 0, 1}},
		{Direct: [4]uint16{0, 0, 0, 1}}, {Single: 1}, {Double: 1}, {Links: 1, Size: 64, Direct: [4]uint16{9}, Single: 10, Double: 11},
	} {
		checkIs(t, x, api.ErrArg)
	}
}

// 10.1: where a file's or a directory's blocks are is not looked at, nor whether its size needs them.
func TestCheckPointers(t *testing.T) {
	for _, kind := range []uint8{1, 2} {
		for _, at := range []uint16{0, 1, 2047, 2048, math.MaxUint16} {
			for k := range 4 {
				x := api.Inode{Kind: kind}
				x.Direct[k] = at
				checkIs(t, x, api.OK)
			}
			checkIs(t, api.Inode{Kind: kind, Single: at}, api.OK)
			checkIs(t, api.Inode{Kind: kind, Double: at}, api.OK)
			checkIs(t, api.Inode{Kind: kind, Size: api.MaxSize, Direct: [4]uint16{at, at, at, at}, Single: at, Double: at}, api.OK)
		}
	}
}

// 10.1: Check of whatever bytes tell.
func TestCheckAny(t *testing.T) {
	for _, b := range anyBytes() {
		for kind := range byte(4) {
			b[0] = kind
			checkIs(t, read(b), judged(read(b)))
		}
	}
}

// 10.1: Put tells the bytes of any inode, and Get the inode of them.
func TestPutGet(t *testing.T) {
	for _, c := range pairs() {
		if b := inode.Put(c.x); b != c.b {
			t.Errorf("%s: put: %v, want %v", c.name, b, c.b)
		}
		if x := inode.Get(c.b); x != c.x {
			t.Errorf("%s: get: %v, want %v", c.name, x, c.x)
		}
	}
}

// 10.1, 10.3: any 18 bytes are an inode's, which has just these, be it one that may be or not.
func TestGetAny(t *testing.T) {
	for _, b := range anyBytes() {
		x := inode.Get(b)
		if x != read(b) {
			t.Errorf("get of %v: %v, want %v", b, x, read(b))
		}
		if back := inode.Put(x); back != b {
			t.Errorf("%v, got and put: %v", b, back)
		}
	}
}

// 10.3: what was put is got.
func TestBack(t *testing.T) {
	for _, c := range pairs() {
		if x := inode.Get(inode.Put(c.x)); x != c.x {
			t.Errorf("%s: put and got: %v, want %v", c.name, x, c.x)
		}
	}
	for _, b := range anyBytes() {
		if x := inode.Get(inode.Put(read(b))); x != read(b) {
			t.Errorf("put and got: %v, want %v", x, read(b))
		}
	}
}

// 10.1: At tells the inode of each slot's 18 bytes, one behind the other.
func TestAt(t *testing.T) {
	for _, p := range loads() {
		for slot, at := range []int{0, 18, 36} {
			want := read([18]byte(p[at : at+18]))
			if x, e := inode.At(p, slot); x != want || e != api.OK {
				t.Errorf("slot %d of %v: %v, error %d, want %v", slot, p, x, e, want)
			}
			for _, c := range pairs() {
				if x, e := inode.At(laid(p, at, c.b[:]), slot); x != c.x || e != api.OK {
					t.Errorf("%s in slot %d: %v, error %d, want %v", c.name, slot, x, e, c.x)
				}
			}
		}
	}
}

// 10.1: a byte of the load is of its own slot's inode alone.
func TestAtOneByte(t *testing.T) {
	for i := range api.Payload {
		p := laid(api.Load{}, i, []byte{129})
		for slot := range 3 {
			want := api.Inode{}
			if i/18 == slot {
				want = read(one(i%18, 129))
			}
			if x, e := inode.At(p, slot); x != want || e != api.OK {
				t.Errorf("byte %d, slot %d: %v, error %d, want %v", i, slot, x, e, want)
			}
		}
	}
}

// 10.1, 10.3: With lays the inode into its slot, and nothing else is changed.
func TestWith(t *testing.T) {
	for _, p := range loads() {
		for slot, at := range []int{0, 18, 36} {
			for _, c := range pairs() {
				was, want := p, laid(p, at, c.b[:])
				if q, e := inode.With(p, slot, c.x); q != want || e != api.OK {
					t.Errorf("%s into slot %d of %v: %v, error %d, want %v", c.name, slot, p, q, e, want)
				}
				if p != was {
					t.Errorf("%s into slot %d: the load that was handed in is %v", c.name, slot, p)
				}
			}
		}
	}
}

// 10.1: Put and With don't ask whether an inode may be.
func TestMayNotBe(t *testing.T) {
	for _, x := range []api.Inode{
		{Kind: 3}, {Kind: 255, Links: 255}, {Links: 1}, {Size: 1}, {Double: 1}, {Kind: 1, Links: 201}, {Kind: 1, Size: 48641},
		{Kind: 2, Size: 65}, {Kind: 2, Links: 201, Size: 48704}, {Kind: 1, Size: math.MaxUint32},
	} {
		checkIs(t, x, api.ErrArg)
		if y := read(inode.Put(x)); y != x {
			t.Errorf("put of %v is that of %v", x, y)
		}
		for slot := range 3 {
			p, e := inode.With(api.Load{}, slot, x)
			y, f := inode.At(p, slot)
			if e != api.OK || f != api.OK || y != x {
				t.Errorf("%v into slot %d: error %d; %v is there, error %d", x, slot, e, y, f)
			}
		}
	}
}

// 10.1: slots that are not from 0 to 2 are told ErrArg, and nothing else, whatever the load and the inode.
func TestNoSlot(t *testing.T) {
	for _, slot := range noSlots() {
		for _, p := range loads() {
			if x, e := inode.At(p, slot); x != (api.Inode{}) || e != api.ErrArg {
				t.Errorf("at slot %d: %v, error %d, want noughts, error 2", slot, x, e)
			}
			for _, c := range pairs() {
				if q, e := inode.With(p, slot, c.x); q != (api.Load{}) || e != api.ErrArg {
					t.Errorf("%s into slot %d: %v, error %d, want noughts, error 2", c.name, slot, q, e)
				}
			}
		}
	}
}

// 10.3: inodes that are put into a load's slots, in any order, are there; those behind them stay.
func TestSlots(t *testing.T) {
	all := pairs()
	for _, order := range [][3]int{{0, 1, 2}, {0, 2, 1}, {1, 0, 2}, {1, 2, 0}, {2, 0, 1}, {2, 1, 0}} {
		for _, p := range loads() {
			for first := range all {
				want := [3]api.Inode{}
				for slot := range want {
					want[slot], _ = inode.At(p, slot)
				}
				q := p
				for k, slot := range order {
					want[slot] = all[(first+5*k)%len(all)].x
					q, _ = inode.With(q, slot, want[slot])
					holds(t, q, want)
				}
			}
		}
	}
}

// holds asks whether just these inodes are in the load.
func holds(t *testing.T, p api.Load, want [3]api.Inode) {
	t.Helper()
	for slot, x := range want {
		if y, e := inode.At(p, slot); y != x || e != api.OK {
			t.Errorf("slot %d of %v: %v, error %d, want %v", slot, p, y, e, x)
		}
	}
}

// 10.3: an inode that is put anew takes the place of the one that was there.
func TestWithAgain(t *testing.T) {
	for slot := range 3 {
		for _, p := range loads() {
			for _, a := range pairs() {
				q, _ := inode.With(p, slot, a.x)
				for _, b := range pairs() {
					got, _ := inode.With(q, slot, b.x)
					want, _ := inode.With(p, slot, b.x)
					if got != want {
						t.Errorf("slot %d: %s over %s: %v, want %v", slot, b.name, a.name, got, want)
					}
				}
			}
		}
	}
}

// 10.2: the fields' names stand for the chapter's numbers.
func TestFieldNumbers(t *testing.T) {
	got := []inode.Field{inode.All, inode.Links, inode.Size, inode.Direct, inode.Single, inode.Double, inode.Tail}
	for k, want := range []inode.Field{0, 1, 2, 3, 7, 8, 9} {
		if got[k] != want {
			t.Errorf("field %d is %d, want %d", k, got[k], want)
		}
	}
}

// 10.2: the chapter's example.
func TestExample(t *testing.T) {
	if at, n, e := inode.Offset(1, inode.Size); at != 20 || n != 4 || e != api.OK {
		t.Errorf("size of slot 1: %d, %d, error %d, want 20, 4", at, n, e)
	}
}

// 10.2: Offset tells where each field of each slot lies in the load.
func TestOffset(t *testing.T) {
	if len(parts()) != 10 {
		t.Fatalf("%d fields", len(parts()))
	}
	for slot := range 3 {
		for _, f := range parts() {
			if at, n, e := inode.Offset(slot, f.f); at != 18*slot+f.at || n != f.size || e != api.OK {
				t.Errorf("slot %d, field %d: %d, %d, error %d, want %d, %d", slot, f.f, at, n, e, 18*slot+f.at, f.size)
			}
		}
	}
}

// 10.2: the first and the last byte of a load, by all fields' ends, written out.
func TestOffsetEnds(t *testing.T) {
	for _, c := range []struct {
		slot  int
		f     inode.Field
		at, n int
	}{
		{0, inode.All, 0, 18}, {1, inode.All, 18, 18}, {2, inode.All, 36, 18},
		{0, inode.Links, 1, 1}, {2, inode.Links, 37, 1}, {0, inode.Size, 2, 4}, {2, inode.Size, 38, 4},
		{0, inode.Direct, 6, 2}, {2, inode.Direct + 3, 48, 2}, {2, inode.Single, 50, 2},
		{0, inode.Double, 16, 2}, {2, inode.Double, 52, 2}, {0, inode.Tail, 2, 16}, {2, inode.Tail, 38, 16},
	} {
		if at, n, e := inode.Offset(c.slot, c.f); at != c.at || n != c.n || e != api.OK {
			t.Errorf("slot %d, field %d: %d, %d, error %d, want %d, %d", c.slot, c.f, at, n, e, c.at, c.n)
		}
	}
}

// 10.2: a slot or a field that may not be, or both, are told ErrArg, and nothing else.
func TestNoOffset(t *testing.T) {
	refused := func(slot int, f inode.Field) {
		if at, n, e := inode.Offset(slot, f); at != 0 || n != 0 || e != api.ErrArg {
			t.Errorf("slot %d, field %d: %d, %d, error %d, want 0, 0, error 2", slot, f, at, n, e)
		}
	}
	for _, slot := range noSlots() {
		for f := range inode.Field(10) {
			refused(slot, f)
		}
		for _, f := range noFields() {
			refused(slot, f)
		}
	}
	for _, f := range noFields() {
		for slot := range 3 {
			refused(slot, f)
		}
	}
}

// 10.2: Fields tells each field's bytes of any inode.
func TestFields(t *testing.T) {
	for _, c := range pairs() {
		for _, f := range parts() {
			if b := inode.Fields(c.x, f.f); !bytes.Equal(b, c.b[f.at:f.at+f.size]) {
				t.Errorf("%s, field %d: %v, want %v", c.name, f.f, b, c.b[f.at:f.at+f.size])
			}
		}
	}
}

// 10.2: the bytes of one inode's fields, written out.
func TestFieldsWrittenOut(t *testing.T) {
	x := api.Inode{Kind: 1, Links: 2, Size: 0x06050403, Direct: [4]uint16{0x0807, 0x0a09, 0x0c0b, 0x0e0d}, Single: 0x100f, Double: 0x1211}
	for f, want := range [][]byte{
		{1, 2, 3, 4, 5, 6, 7, 8, 9, 10, 11, 12, 13, 14, 15, 16, 17, 18}, {2}, {3, 4, 5, 6},
		{7, 8}, {9, 10}, {11, 12}, {13, 14}, {15, 16}, {17, 18}, {3, 4, 5, 6, 7, 8, 9, 10, 11, 12, 13, 14, 15, 16, 17, 18},
	} {
		if b := inode.Fields(x, inode.Field(f)); !bytes.Equal(b, want) {
			t.Errorf("field %d: %v, want %v", f, b, want)
		}
	}
}

// 10.2: no field has no bytes.
func TestNoFields(t *testing.T) {
	for _, f := range noFields() {
		for _, c := range pairs() {
			if b := inode.Fields(c.x, f); len(b) != 0 {
				t.Errorf("%s, field %d: %v, want none", c.name, f, b)
			}
		}
	}
}

// 10.2: the bytes are the caller's own: what is done to them is not seen by a later call.
func TestFieldsOwn(t *testing.T) {
	for _, c := range pairs() {
		for _, f := range parts() {
			b := inode.Fields(c.x, f.f)
			for i := range b {
				b[i] ^= 255
			}
			_ = append(b, 77, 77, 77)
			if again := inode.Fields(c.x, f.f); !bytes.Equal(again, c.b[f.at:f.at+f.size]) {
				t.Errorf("%s, field %d, asked again: %v, want %v", c.name, f.f, again, c.b[f.at:f.at+f.size])
			}
		}
	}
}

// mixed is x with that field as y has it, in the chapter's words.
func mixed(x, y api.Inode, f inode.Field) api.Inode {
	switch f {
	case 0:
		return y
	case 1:
		x.Links = y.Links
	case 2:
		x.Size = y.Size
	case 3, 4, 5, 6:
		x.Direct[f-3] = y.Direct[f-3]
	case 7:
		x.Single = y.Single
	case 8:
		x.Double = y.Double
	case 9:
		y.Kind, y.Links = x.Kind, x.Links
		return y
	}
	return x
}

// 10.2: a field's bytes, laid where it lies, turn that field of that slot's inode, and nothing else.
func TestFieldsLaid(t *testing.T) {
	for _, p := range loads() {
		for slot := range 3 {
			for f := range inode.Field(10) {
				for _, c := range pairs() {
					var want [3]api.Inode
					for k := range want {
						want[k], _ = inode.At(p, k)
					}
					want[slot] = mixed(want[slot], c.x, f)
					at, n, _ := inode.Offset(slot, f)
					b := inode.Fields(c.x, f)
					if len(b) != n {
						t.Fatalf("field %d: %d bytes, and its place has %d", f, len(b), n)
					}
					holds(t, laid(p, at, b), want)
				}
			}
		}
	}
}
