package dirent_test

import (
	"math"
	"slices"
	"strings"
	"testing"

	"scupper/api"
	"scupper/dirent"
)

// The document's numbers, written out, so that no shared slip of code and test hides.
const (
	slots   = 4
	size    = 13
	maxName = 10
	maxIno  = 65535
)

// What a slot is.
const (
	empty = 0
	right = 1
	bad   = 2
)

// pair is an entry, and its slot's bytes, written out.
type pair struct {
	e api.Entry
	b [size]byte
}

func pairs() []pair {
	return []pair{
		{api.Entry{Ino: 5, Name: "ab"}, [size]byte{5, 0, 2, 97, 98}},
		{api.Entry{Ino: 1, Name: "a"}, [size]byte{1, 0, 1, 97}},
		{api.Entry{Ino: 65535, Name: "0123456789"}, [size]byte{255, 255, 10, 48, 49, 50, 51, 52, 53, 54, 55, 56, 57}},
		{api.Entry{Ino: 65535, Name: "!"}, [size]byte{255, 255, 1, 33}},
		{api.Entry{Ino: 1, Name: "~~~~~~~~~~"}, [size]byte{1, 0, 10, 126, 126, 126, 126, 126, 126, 126, 126, 126, 126}},
		{api.Entry{Ino: 255, Name: "!~"}, [size]byte{255, 0, 2, 33, 126}},
		{api.Entry{Ino: 256, Name: "..."}, [size]byte{0, 1, 3, 46, 46, 46}},
		{api.Entry{Ino: 258, Name: ".a"}, [size]byte{2, 1, 2, 46, 97}},
		{api.Entry{Ino: 513, Name: "..a"}, [size]byte{1, 2, 3, 46, 46, 97}},
		{api.Entry{Ino: 65280, Name: "a."}, [size]byte{0, 255, 2, 97, 46}},
		{api.Entry{Ino: 24, Name: "A-b_c+9.t"}, [size]byte{24, 0, 9, 65, 45, 98, 95, 99, 43, 57, 46, 116}},
	}
}

// entries are those of all pairs.
func entries() []api.Entry {
	var l []api.Entry
	for _, c := range pairs() {
		l = append(l, c.e)
	}
	return l
}

// isName is the chapter's words, byte by byte.
func isName(s string) bool {
	if len(s) == 0 || len(s) > maxName || s == "." || s == ".." {
		return false
	}
	for i := 0; i < len(s); i++ {
		if s[i] < 33 || s[i] > 126 || s[i] == 47 {
			return false
		}
	}
	return true
}

// tell is the chapter's words of a slot's bytes.
func tell(b []byte) (api.Entry, int) {
	zero := true
	for _, v := range b {
		zero = zero && v == 0
	}
	if zero {
		return api.Entry{}, empty
	}
	ino, long := int(b[0])+256*int(b[1]), int(b[2])
	if ino == 0 || long == 0 || long > maxName {
		return api.Entry{}, bad
	}
	name, behind := string(b[3:3+long]), b[3+long:]
	if !isName(name) {
		return api.Entry{}, bad
	}
	for _, v := range behind {
		if v != 0 {
			return api.Entry{}, bad
		}
	}
	return api.Entry{Ino: ino, Name: name}, right
}

// part is a slot's bytes in p.
func part(p api.Load, slot int) []byte { return slices.Clone(p[size*slot : size*slot+size]) }

// laid is p with a slot's bytes.
func laid(p api.Load, slot int, b [size]byte) api.Load {
	for i, v := range b {
		p[size*slot+i] = v
	}
	return p
}

// counting is 1, 2, 3 .. 54.
func counting() api.Load {
	var p api.Load
	for i := range p {
		p[i] = byte(i + 1)
	}
	return p
}

// slotBytes are slots that are empty, right, and bad in each of the ways that the chapter has.
func slotBytes() [][size]byte {
	l := [][size]byte{
		{},
		{0, 0, 1, 97},     // an inode of 0
		{0, 0, 2, 97, 98}, // the same
		{5, 0, 0},         // a length of 0
		{5, 0, 0, 97},     // the same, with bytes there
		{0, 0, 0, 97},     // bytes of a name alone
		{0, 0, 0, 0, 0, 0, 0, 0, 0, 0, 0, 0, 1},
		{0, 0, 1}, {0, 1, 0}, {1, 0, 0}, // one byte alone
		{5, 0, 11, 97, 97, 97, 97, 97, 97, 97, 97, 97, 97}, // a length above MaxName
		{5, 0, 255, 97, 97, 97, 97, 97, 97, 97, 97, 97, 97},
		{5, 0, 128, 97}, {5, 0, 11, 97}, {5, 0, 14, 97}, {5, 0, 255},
		{5, 0, 2, 97, 32}, {5, 0, 2, 97, 47}, {5, 0, 2, 97, 127}, // a byte that no name has
		{5, 0, 2, 32, 97}, {5, 0, 2, 47, 97}, {5, 0, 2, 127, 97},
		{5, 0, 2, 97, 128}, {5, 0, 2, 97, 255}, {5, 0, 2, 195, 169},
		{5, 0, 2, 97, 0}, {5, 0, 2, 0, 97}, {5, 0, 1, 0}, {5, 0, 3, 97, 0, 98},
		{5, 0, 1, 46}, {5, 0, 2, 46, 46}, // . and .. alone
		{5, 0, 2, 97, 98, 1}, {5, 0, 2, 97, 98, 99}, // a byte that is not 0 behind the name
		{5, 0, 2, 97, 98, 0, 0, 0, 0, 0, 0, 0, 1}, {5, 0, 9, 97, 97, 97, 97, 97, 97, 97, 97, 97, 97},
		{5, 0, 1, 97, 32}, {5, 0, 1, 46, 46}, {5, 0, 1, 97, 255},
	}
	for _, c := range pairs() {
		l = append(l, c.b)
	}
	return l
}

// loads have all slots' bytes at all slots, with others beside them, and bytes of no order; some end in bytes that are not 0.
func loads() []api.Load {
	l := []api.Load{{}, counting()}
	all := slotBytes()
	for i := range all {
		var p api.Load
		for slot := range slots {
			p = laid(p, slot, all[(i+slot*7)%len(all)])
		}
		l = append(l, p)
		p[52], p[53] = byte(i+1), byte(255-i)
		l = append(l, p)
	}
	r := uint32(3)
	for range 500 {
		var mixed, thin api.Load
		for i := range mixed {
			r = r*1664525 + 1013904223
			mixed[i] = byte(r >> 24)
			if r>>8%4 == 0 {
				thin[i] = byte(r>>24) % 128
			}
		}
		l = append(l, mixed, thin)
	}
	return l
}

// noSlots are slots that may not be, those among them whose 13-fold wraps round to a place in a load.
func noSlots() []int {
	l := []int{
		-1, -2, -3, -4, -13, 4, 5, 12, 13, 52, 54, 255, 256, 65536, 1 << 31, -1 << 31, 1 << 32,
		math.MaxInt, math.MaxInt - 1, math.MaxInt - 3, math.MinInt, math.MinInt + 1, math.MinInt + 3, math.MinInt / 2, math.MaxInt/2 + 1,
	}
	for k := range 13 {
		l = append(l, int(uint(math.MaxUint)/13*uint(k+1)), int(uint(math.MaxUint)/13*uint(k+1)+uint(k+1)))
	}
	return slices.DeleteFunc(l, func(slot int) bool { return slot >= 0 && slot < slots })
}

// noInos are inodes that may not be, those among them whose lowest 16 bits are an inode's.
func noInos() []int {
	return []int{
		0, -1, -2, -65535, -65536, 65536, 65537, 65541, 131072, 131073, 1 << 31, 1<<31 + 5, -1 << 31, 1 << 32, 1<<32 + 1,
		math.MaxInt, math.MaxInt - 1, math.MinInt, math.MinInt + 1, math.MinInt + 5,
	}
}

// noNames are texts that are no names.
func noNames() []string {
	return []string{
		"", ".", "..", "/", "//", "/a", "a/", "a/b", " ", " a", "a ", "a b", "a\tb", "a\nb", "\x00", "a\x00", "\x00a",
		"\x1f", "\x20", "\x7f", "\x80", "\xff", "a\x7f", "\x7fa", "a\x80", "\xc3", "a\xff", "\xe2\x82", "é", "aé", "世", "\U0001F600", "\uFFFD", "\u0100", "\u0141",
		"01234567890", "aaaaaaaaaaa", "012345678/", "01234567 9", "/123456789", "012345678\x7f", "éééééé", "...........",
		strings.Repeat("a", 12), strings.Repeat("a", 255), strings.Repeat("a", 256), strings.Repeat("a", 257), strings.Repeat("a", 266),
		strings.Repeat("b", 65536), strings.Repeat("b", 65537), strings.Repeat("/", 100000),
	}
}

// 12.1: names, and the edges of what is one.
func TestCheck(t *testing.T) {
	for _, s := range []string{
		"a", "Z", "0", "!", "~", "\"", "0123456789", "!!!!!!!!!!", "~~~~~~~~~~", "...", "....", "..........", ".a", "..a", "a.", "a..", ".!", "-", "\\", "a.b", "*?<>|:", ".0", "0.",
	} {
		if e := dirent.Check(s); e != api.OK {
			t.Errorf("Check(%q): %d, want OK", s, e)
		}
	}
	for _, s := range noNames() {
		if e := dirent.Check(s); e != api.ErrName {
			t.Errorf("Check(%.20q): %d, want ErrName", s, e)
		}
	}
}

// 12.1: every byte, alone and at each place of names of each length.
func TestCheckEveryByte(t *testing.T) {
	for v := range 256 {
		for long := 1; long <= maxName+2; long++ {
			for at := range long {
				for _, fill := range []byte{'a', '.'} {
					b := slices.Repeat([]byte{fill}, long)
					b[at] = byte(v)
					want := api.OK
					if !isName(string(b)) {
						want = api.ErrName
					}
					if e := dirent.Check(string(b)); e != want {
						t.Fatalf("Check(%q): %d, want %d", b, e, want)
					}
				}
			}
		}
	}
}

// 12.1: every pair of bytes.
func TestCheckEveryPair(t *testing.T) {
	for v := range 65536 {
		s := string([]byte{byte(v >> 8), byte(v)})
		if got := dirent.Check(s) == api.OK; got != isName(s) {
			t.Fatalf("Check(%q): %v, want %v", s, got, isName(s))
		}
	}
}

// 12.1: the chapter's example.
func TestExample(t *testing.T) {
	b, e := dirent.Put(api.Entry{Ino: 5, Name: "ab"})
	if e != api.OK || b != [size]byte{5, 0, 2, 97, 98} {
		t.Errorf("Put of inode 5, name ab: %v, %d", b, e)
	}
}

// 12.1: slots, written out.
func TestPut(t *testing.T) {
	for _, c := range pairs() {
		if b, e := dirent.Put(c.e); e != api.OK || b != c.b {
			t.Errorf("Put(%v): %v, %d, want %v", c.e, b, e, c.b)
		}
	}
}

// 12.1: every inode that may be, and those beside them.
func TestPutEveryInode(t *testing.T) {
	for ino := -2; ino <= maxIno+3; ino++ {
		var want [size]byte
		wantErr := api.ErrArg
		if ino >= 1 && ino <= maxIno {
			want, wantErr = [size]byte{byte(ino % 256), byte(ino / 256), 3, 120, 121, 122}, api.OK
		}
		if b, e := dirent.Put(api.Entry{Ino: ino, Name: "xyz"}); b != want || e != wantErr {
			t.Fatalf("Put of inode %d: %v, %d, want %v, %d", ino, b, e, want, wantErr)
		}
	}
}

// 12.1: what may not be put; a wrong inode is told ahead of a wrong name.
func TestPutWrong(t *testing.T) {
	check := func(e api.Entry, want api.Errno) {
		t.Helper()
		if b, got := dirent.Put(e); got != want || b != [size]byte{} {
			t.Errorf("Put(%d, %.20q): %v, %d, want noughts, %d", e.Ino, e.Name, b, got, want)
		}
	}
	for _, name := range noNames() {
		for _, ino := range []int{1, 5, 256, maxIno} {
			check(api.Entry{Ino: ino, Name: name}, api.ErrName)
		}
		for _, ino := range noInos() {
			check(api.Entry{Ino: ino, Name: name}, api.ErrArg)
		}
	}
	for _, ino := range noInos() {
		check(api.Entry{Ino: ino, Name: "a"}, api.ErrArg)
	}
}

// 12.1: where slots begin.
func TestOffset(t *testing.T) {
	for slot, want := range []int{0, 13, 26, 39} {
		if at, e := dirent.Offset(slot); e != api.OK || at != want {
			t.Errorf("Offset(%d): %d, %d, want %d", slot, at, e, want)
		}
	}
	for _, slot := range noSlots() {
		if at, e := dirent.Offset(slot); e != api.ErrArg || at != 0 {
			t.Errorf("Offset(%d): %d, %d, want 0, ErrArg", slot, at, e)
		}
	}
}

// 12.1: slots that are empty, right and bad, written out, at each slot.
func TestAtWrittenOut(t *testing.T) {
	none := api.Entry{}
	for _, c := range []struct {
		why string
		b   [size]byte
		e   api.Entry
		is  int
	}{
		{"noughts", [size]byte{}, none, empty},
		{"ab", [size]byte{5, 0, 2, 97, 98}, api.Entry{Ino: 5, Name: "ab"}, right},
		{"the least inode", [size]byte{1, 0, 1, 33}, api.Entry{Ino: 1, Name: "!"}, right},
		{"the greatest of all", [size]byte{255, 255, 10, 126, 126, 126, 126, 126, 126, 126, 126, 126, 126}, api.Entry{Ino: 65535, Name: "~~~~~~~~~~"}, right},
		{"an inode in the second byte alone", [size]byte{0, 1, 1, 97}, api.Entry{Ino: 256, Name: "a"}, right},
		{"three dots", [size]byte{5, 0, 3, 46, 46, 46}, api.Entry{Ino: 5, Name: "..."}, right},
		{"an inode of 0", [size]byte{0, 0, 1, 97}, none, bad},
		{"a length of 0", [size]byte{5, 0, 0}, none, bad},
		{"a length of 0 ahead of bytes", [size]byte{5, 0, 0, 97}, none, bad},
		{"a length of 11", [size]byte{5, 0, 11, 97, 97, 97, 97, 97, 97, 97, 97, 97, 97}, none, bad},
		{"a length of 255", [size]byte{5, 0, 255, 97, 97, 97, 97, 97, 97, 97, 97, 97, 97}, none, bad},
		{"a blank", [size]byte{5, 0, 3, 97, 32, 97}, none, bad},
		{"a /", [size]byte{5, 0, 3, 97, 47, 97}, none, bad},
		{"a byte of 127", [size]byte{5, 0, 3, 97, 127, 97}, none, bad},
		{"a byte of 255", [size]byte{5, 0, 3, 97, 255, 97}, none, bad},
		{"a letter of two bytes", [size]byte{5, 0, 2, 195, 169}, none, bad},
		{"a nought in the name", [size]byte{5, 0, 3, 97, 0, 97}, none, bad},
		{"a dot", [size]byte{5, 0, 1, 46}, none, bad},
		{"two dots", [size]byte{5, 0, 2, 46, 46}, none, bad},
		{"a byte behind the name", [size]byte{5, 0, 2, 97, 98, 99}, none, bad},
		{"the last byte behind the name", [size]byte{5, 0, 2, 97, 98, 0, 0, 0, 0, 0, 0, 0, 1}, none, bad},
		{"the last byte alone", [size]byte{12: 1}, none, bad},
		{"an inode alone", [size]byte{1: 1}, none, bad},
		{"a length alone", [size]byte{2: 1}, none, bad},
	} {
		for slot := range slots {
			for _, p := range []api.Load{{}, counting()} {
				e, is, err := dirent.At(laid(p, slot, c.b), slot)
				if e != c.e || is != c.is || err != api.OK {
					t.Errorf("%s, at slot %d: %v, %d, %d, want %v, %d", c.why, slot, e, is, err, c.e, c.is)
				}
			}
		}
	}
}

// 12.1: all slots of all loads, in the chapter's words.
func TestAt(t *testing.T) {
	for _, p := range loads() {
		for slot := range slots {
			want, wantIs := tell(part(p, slot))
			if e, is, err := dirent.At(p, slot); e != want || is != wantIs || err != api.OK {
				t.Fatalf("At(%v, %d): %v, %d, %d, want %v, %d", p, slot, e, is, err, want, wantIs)
			}
		}
	}
}

// 12.1: each byte of a right slot turned to each other one.
func TestAtEveryByte(t *testing.T) {
	for _, c := range pairs() {
		for at := range size {
			for v := range 256 {
				b := c.b
				b[at] = byte(v)
				want, wantIs := tell(b[:])
				if e, is, err := dirent.At(laid(api.Load{}, 2, b), 2); e != want || is != wantIs || err != api.OK {
					t.Fatalf("At(%v): %v, %d, %d, want %v, %d", b, e, is, err, want, wantIs)
				}
			}
		}
	}
}

// 12.1: slots that there are not, whatever is asked of them.
func TestWrongSlots(t *testing.T) {
	for _, slot := range noSlots() {
		for _, p := range []api.Load{{}, counting(), laid(api.Load{}, 0, pairs()[0].b)} {
			if e, is, err := dirent.At(p, slot); e != (api.Entry{}) || is != 0 || err != api.ErrArg {
				t.Errorf("At(p, %d): %v, %d, %d, want nothing, ErrArg", slot, e, is, err)
			}
			if q, err := dirent.Without(p, slot); q != (api.Load{}) || err != api.ErrArg {
				t.Errorf("Without(p, %d): %v, %d, want noughts, ErrArg", slot, q, err)
			}
			for _, x := range []api.Entry{{Ino: 5, Name: "ab"}, {Ino: 0, Name: "ab"}, {Ino: 5, Name: ""}, {Ino: 5, Name: "a/b"}, {Ino: math.MaxInt, Name: ".."}} {
				if q, err := dirent.With(p, slot, x); q != (api.Load{}) || err != api.ErrArg {
					t.Errorf("With(p, %d, %v): %v, %d, want noughts, ErrArg", slot, x, q, err)
				}
			}
		}
	}
}

// 12.1: entries that may not be are not put into a slot; a wrong inode is told ahead of a wrong name.
func TestWithWrong(t *testing.T) {
	check := func(slot int, e api.Entry, want api.Errno) {
		t.Helper()
		if q, err := dirent.With(counting(), slot, e); q != (api.Load{}) || err != want {
			t.Errorf("With(p, %d, {%d %.20q}): %v, %d, want noughts, %d", slot, e.Ino, e.Name, q, err, want)
		}
	}
	for slot := range slots {
		for _, name := range noNames() {
			check(slot, api.Entry{Ino: 1, Name: name}, api.ErrName)
			check(slot, api.Entry{Ino: maxIno, Name: name}, api.ErrName)
			check(slot, api.Entry{Ino: 0, Name: name}, api.ErrArg)
			check(slot, api.Entry{Ino: 65536, Name: name}, api.ErrArg)
		}
		for _, ino := range noInos() {
			check(slot, api.Entry{Ino: ino, Name: "a"}, api.ErrArg)
		}
	}
}

// 12.1, 12.3: a slot's bytes are laid where it begins; all other bytes, and those behind the slots, are as they were.
func TestWith(t *testing.T) {
	for _, p := range loads() {
		for slot := range slots {
			for _, c := range pairs() {
				was := p
				q, err := dirent.With(p, slot, c.e)
				if want := laid(p, slot, c.b); err != api.OK || q != want {
					t.Fatalf("With(%v, %d, %v): %v, %d, want %v", p, slot, c.e, q, err, want)
				}
				if p != was {
					t.Fatal("With changed the load that it was handed")
				}
			}
		}
	}
}

// 12.1, 12.3: a slot that was taken out is noughts, whatever it was; all other bytes are as they were.
func TestWithout(t *testing.T) {
	for _, p := range loads() {
		for slot := range slots {
			was := p
			q, err := dirent.Without(p, slot)
			if want := laid(p, slot, [size]byte{}); err != api.OK || q != want {
				t.Fatalf("Without(%v, %d): %v, %d, want %v", p, slot, q, err, want)
			}
			if p != was {
				t.Fatal("Without changed the load that it was handed")
			}
		}
	}
}

// 12.1: Offset is where With lays what Put tells.
func TestOffsetIsWhereItLies(t *testing.T) {
	for slot := range slots {
		for _, e := range entries() {
			p, _ := dirent.With(counting(), slot, e)
			b, _ := dirent.Put(e)
			at, err := dirent.Offset(slot)
			if err != api.OK || [size]byte(p[at:at+size]) != b {
				t.Errorf("slot %d: %v from %d on, want %v", slot, p[at:at+size], at, b)
			}
		}
	}
}

// 12.2: all entries, a name found, and room found, written out.
func TestWholeLoadWrittenOut(t *testing.T) {
	a, b, c := [size]byte{9, 0, 1, 97}, [size]byte{8, 1, 2, 98, 98}, [size]byte{7, 0, 1, 97}
	wrong, none := [size]byte{7, 0, 1, 97, 1}, [size]byte{}
	ea, eb, ec := api.Entry{Ino: 9, Name: "a"}, api.Entry{Ino: 264, Name: "bb"}, api.Entry{Ino: 7, Name: "a"}
	for _, x := range []struct {
		in              [slots][size]byte
		all             []api.Entry
		a, b, room, nul int
	}{
		{[slots][size]byte{none, none, none, none}, nil, -1, -1, 0, -1},
		{[slots][size]byte{a, b, c, a}, []api.Entry{ea, eb, ec, ea}, 0, 1, -1, -1},
		{[slots][size]byte{b, b, b, a}, []api.Entry{eb, eb, eb, ea}, 3, 0, -1, -1},
		{[slots][size]byte{none, c, a, b}, []api.Entry{ec, ea, eb}, 1, 3, 0, -1},
		{[slots][size]byte{b, none, none, c}, []api.Entry{eb, ec}, 3, 0, 1, -1},
		{[slots][size]byte{a, b, a, none}, []api.Entry{ea, eb, ea}, 0, 1, 3, -1},
		{[slots][size]byte{wrong, c, none, none}, []api.Entry{ec}, 1, -1, 2, -1},
		{[slots][size]byte{wrong, wrong, wrong, wrong}, nil, -1, -1, -1, -1},
		{[slots][size]byte{none, none, none, b}, []api.Entry{eb}, -1, 3, 0, -1},
		{[slots][size]byte{a, wrong, wrong, wrong}, []api.Entry{ea}, 0, -1, -1, -1},
	} {
		var p api.Load
		for slot, v := range x.in {
			p = laid(p, slot, v)
		}
		if l := dirent.All(p); !slices.Equal(l, x.all) {
			t.Errorf("All of %v: %v, want %v", x.in, l, x.all)
		}
		got := []int{dirent.Find(p, "a"), dirent.Find(p, "bb"), dirent.Room(p), dirent.Find(p, "")}
		if want := []int{x.a, x.b, x.room, x.nul}; !slices.Equal(got, want) {
			t.Errorf("Find of a and of bb, Room, Find of no text, in %v: %v, want %v", x.in, got, want)
		}
	}
}

// 12.2: all loads, in the chapter's words.
func TestWholeLoads(t *testing.T) {
	var names []string
	for _, e := range entries() {
		names = append(names, e.Name, e.Name+"\x00", e.Name[:1], e.Name+"a")
	}
	names = append(append(names, noNames()...), "b", "zz", "...")
	for _, p := range loads() {
		var all []api.Entry
		first, room := map[string]int{}, -1
		for slot := range slots {
			e, is := tell(part(p, slot))
			if is == right {
				all = append(all, e)
				if _, there := first[e.Name]; !there {
					first[e.Name] = slot
				}
			}
			if is == empty && room < 0 {
				room = slot
			}
		}
		if l := dirent.All(p); !slices.Equal(l, all) {
			t.Fatalf("All(%v): %v, want %v", p, l, all)
		}
		if r := dirent.Room(p); r != room {
			t.Fatalf("Room(%v): %d, want %d", p, r, room)
		}
		for _, name := range names {
			want, there := first[name]
			if !there {
				want = -1
			}
			if f := dirent.Find(p, name); f != want {
				t.Fatalf("Find(%v, %.20q): %d, want %d", p, name, f, want)
			}
		}
	}
}

// 12.2: the two bytes behind the slots are no slot's, and hide nothing.
func TestBytesBehindTheSlots(t *testing.T) {
	p := api.Load{52: 1, 53: 255}
	if l, r := dirent.All(p), dirent.Room(p); len(l) != 0 || r != 0 {
		t.Errorf("All %v, Room %d, want none, 0", l, r)
	}
	p = laid(p, 3, [size]byte{5, 0, 2, 97, 98})
	if l, f := dirent.All(p), dirent.Find(p, "ab"); !slices.Equal(l, []api.Entry{{Ino: 5, Name: "ab"}}) || f != 3 {
		t.Errorf("All %v, Find %d, want ab's entry, 3", l, f)
	}
}

// 12.2: names are told apart by all their bytes, and by letters great and small.
func TestFindIsExact(t *testing.T) {
	var p api.Load
	for slot, name := range []string{"abcdefghi", "abcdefghij", "ABCDEFGHIJ", "abcdefghiJ"} {
		p, _ = dirent.With(p, slot, api.Entry{Ino: slot + 1, Name: name})
	}
	for name, want := range map[string]int{
		"abcdefghi": 0, "abcdefghij": 1, "ABCDEFGHIJ": 2, "abcdefghiJ": 3, "abcdefgh": -1, "abcdefghijk": -1, "bcdefghij": -1, "Abcdefghij": -1, "abcdefghi\x00": -1,
	} {
		if f := dirent.Find(p, name); f != want {
			t.Errorf("Find(%q): %d, want %d", name, f, want)
		}
	}
}

// 12.3: what was put into a slot is there, with the others as they were; what was taken out is empty.
func TestBack(t *testing.T) {
	for _, p := range loads() {
		for slot := range slots {
			for _, e := range entries() {
				q, err := dirent.With(p, slot, e)
				if err != api.OK {
					t.Fatalf("With(p, %d, %v): %d", slot, e, err)
				}
				sameBut(t, p, q, slot)
				if got, is, err := dirent.At(q, slot); got != e || is != right || err != api.OK {
					t.Fatalf("At behind With(%v, %d, %v): %v, %d, %d", p, slot, e, got, is, err)
				}
				if f := dirent.Find(q, e.Name); f < 0 || f > slot {
					t.Fatalf("Find behind With(%v, %d, %v): %d", p, slot, e, f)
				}
				r, err := dirent.Without(q, slot)
				if err != api.OK {
					t.Fatalf("Without(q, %d): %d", slot, err)
				}
				sameBut(t, p, r, slot)
				if got, is, err := dirent.At(r, slot); got != (api.Entry{}) || is != empty || err != api.OK {
					t.Fatalf("At behind Without(%v, %d): %v, %d, %d", q, slot, got, is, err)
				}
				if room := dirent.Room(r); room < 0 || room > slot {
					t.Fatalf("Room behind Without(%v, %d): %d", q, slot, room)
				}
			}
		}
	}
}

// sameBut fails unless all slots of q but one are told as those of p, and both end in the same bytes.
func sameBut(t *testing.T, p, q api.Load, but int) {
	t.Helper()
	for slot := range slots {
		if slot == but {
			continue
		}
		e, is, _ := dirent.At(p, slot)
		f, now, _ := dirent.At(q, slot)
		if e != f || is != now || !slices.Equal(part(p, slot), part(q, slot)) {
			t.Fatalf("slot %d was %v, %d, and is %v, %d, behind a change of slot %d", slot, e, is, f, now, but)
		}
	}
	if p[52] != q[52] || p[53] != q[53] {
		t.Fatalf("the last bytes were %v, and are %v", p[52:], q[52:])
	}
}

// 12.3: a load is filled, told, and emptied again, in any order of slots.
func TestFilledAndEmptied(t *testing.T) {
	in := []api.Entry{{Ino: 1, Name: "one"}, {Ino: 65535, Name: "0123456789"}, {Ino: 300, Name: ".x"}, {Ino: 4, Name: "~"}}
	for _, order := range [][]int{{0, 1, 2, 3}, {3, 2, 1, 0}, {2, 0, 3, 1}, {1, 3, 0, 2}} {
		var p api.Load
		for _, slot := range order {
			p, _ = dirent.With(p, slot, in[slot])
		}
		if l := dirent.All(p); !slices.Equal(l, in) || dirent.Room(p) != -1 {
			t.Fatalf("filled in order %v: %v, with room at %d", order, l, dirent.Room(p))
		}
		for _, slot := range order {
			if f := dirent.Find(p, in[slot].Name); f != slot {
				t.Errorf("Find(%q): %d, want %d", in[slot].Name, f, slot)
			}
			p, _ = dirent.Without(p, slot)
			if f := dirent.Find(p, in[slot].Name); f != -1 {
				t.Errorf("Find(%q) of what was taken out: %d, want -1", in[slot].Name, f)
			}
		}
		if p != (api.Load{}) {
			t.Errorf("emptied in order %v: %v, want noughts", order, p)
		}
	}
}

// Rule 4: lists that are handed out are the caller's own, and nothing is kept of loads.
func TestOwnMemory(t *testing.T) {
	p := laid(laid(api.Load{}, 0, pairs()[0].b), 2, pairs()[1].b)
	want := []api.Entry{{Ino: 5, Name: "ab"}, {Ino: 1, Name: "a"}}
	l := dirent.All(p)
	p[3], p[0] = 'z', 77
	if !slices.Equal(l, want) {
		t.Errorf("a load that was changed changed the list: %v", l)
	}
	p[3], p[0] = 'a', 5
	l[0], l[1] = api.Entry{}, api.Entry{}
	_ = append(l, api.Entry{Ino: 3})
	if again := dirent.All(p); !slices.Equal(again, want) {
		t.Errorf("a list that was changed changed the next one: %v", again)
	}
}

// P2: calls that are refused change nothing that a later call tells.
func TestRefusedChangesNothing(t *testing.T) {
	p, _ := dirent.With(api.Load{}, 1, api.Entry{Ino: 5, Name: "ab"})
	was := p
	_, _ = dirent.With(p, 4, api.Entry{Ino: 6, Name: "c"})
	_, _ = dirent.With(p, 1, api.Entry{Ino: 0, Name: "c"})
	_, _ = dirent.With(p, 1, api.Entry{Ino: 6, Name: "/"})
	_, _ = dirent.Without(p, -1)
	if e, is, err := dirent.At(p, 1); p != was || e != (api.Entry{Ino: 5, Name: "ab"}) || is != right || err != api.OK {
		t.Errorf("behind refused calls: %v, %d, %d", e, is, err)
	}
}
