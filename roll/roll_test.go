package roll_test

import (
	"math"
	"slices"
	"testing"

	"scupper/api"
	"scupper/roll"
)

// full is a list of n bytes that are not 0, unlike those beside them.
func full(n int) []byte {
	l := make([]byte, n)
	for i := range l {
		l[i] = byte(i%200 + 1)
	}
	return l
}

// sectors are bytes of all sorts: right of a kind, of each one, and right of none.
func sectors() []api.Block {
	d := dice(99)
	b := api.Block(d.bytes(64))
	l := []api.Block{{}, b, api.Block(full(64))}
	for kind := 1; kind <= 6; kind++ {
		l = append(l, sealed(kind, uint32(kind), d.load()), sealed(kind, math.MaxUint32, api.Load{}))
	}
	// One byte beside being right.
	for _, i := range []int{0, 53, 54, 55, 56, 59, 60, 63} {
		b = sealed(4, 7, d.load())
		b[i]++
		l = append(l, b)
	}
	return append(l, sealed(0, 1, d.load()), sealed(7, 1, d.load()))
}

// 15.1: the chapter's example.
func TestExample(t *testing.T) {
	p := api.Patch{Off: 3, Data: []byte{7}}
	want := api.Block{3: 7}
	b, e := roll.Lay(api.Block{}, p, 1)
	same(t, "Lay", b, e, want, api.OK)
	b, e = roll.Now(api.Block{}, []api.Patch{p})
	same(t, "Now", b, e, want, api.OK)
}

// 15.1: patches of each kind over sectors of each sort, at the first place, the last one, and all of them.
func TestLay(t *testing.T) {
	for _, b := range sectors() {
		for kind := range 7 {
			most := 54
			if kind == 0 {
				most = 64
			}
			for _, p := range []api.Patch{
				{Kind: kind, Data: []byte{200}},
				{Kind: kind, Off: most - 1, Data: []byte{201}},
				{Kind: kind, Off: 20, Data: []byte{1, 0, 3}},
				{Kind: kind, Data: full(most)},
				{Kind: kind, Data: make([]byte, most)},
				{Kind: kind},
				{Kind: kind, Off: 20, Data: []byte{}},
				{Kind: kind, Off: most},
			} {
				for _, turn := range []uint32{0, 1, 77, math.MaxUint32} {
					got, e := roll.Lay(b, p, turn)
					want, _ := laid(b, p, turn)
					same(t, "Lay", got, e, want, api.OK)
				}
			}
		}
	}
}

// 15.1: one patch of a sealed kind, by hand: over its own kind the load stays, over another, and over none, it is noughts.
func TestLayByHand(t *testing.T) {
	p := api.Patch{Off: 1, Data: []byte{9}, Kind: api.KindInode}
	old := api.Load{1, 2, 3, 53: 4}
	b, e := roll.Lay(sealed(4, 8, old), p, 30)
	same(t, "over its own kind", b, e, sealed(4, 30, api.Load{1, 9, 3, 53: 4}), api.OK)
	b, e = roll.Lay(sealed(5, 8, old), p, 30)
	same(t, "over another kind", b, e, sealed(4, 30, api.Load{1: 9}), api.OK)
	none := sealed(4, 8, old)
	none[63] ^= 1
	b, e = roll.Lay(none, p, 30)
	same(t, "over no kind", b, e, sealed(4, 30, api.Load{1: 9}), api.OK)
	p.Kind = api.KindRaw
	raw := none
	raw[1] = 9
	b, e = roll.Lay(none, p, 30)
	same(t, "raw", b, e, raw, api.OK)
}

// 15.1: at each kind, each place and each length, none among them: which patches may be, and the bytes as they were with those that may not.
func TestEveryPlace(t *testing.T) {
	b := sealed(4, 5, api.Load(full(54)))
	for kind := -1; kind <= 7; kind++ {
		for off := -2; off <= 66; off++ {
			for size := 0; size <= 66; size++ {
				p := api.Patch{Off: off, Data: full(size), Kind: kind}
				got, e := roll.Lay(b, p, 6)
				want, we := laid(b, p, 6)
				if got != want || e != we {
					t.Fatalf("kind %d, %d bytes at %d: %v, %v, want %v, %v", kind, size, off, got, e, want, we)
				}
			}
		}
	}
}

// 15.1: a patch without bytes, at each place that may be: a raw one leaves the bytes as they are, one of another kind seals the load, or noughts.
func TestLayWithoutBytes(t *testing.T) {
	for _, b := range sectors() {
		for _, none := range [][]byte{nil, {}} {
			for off := 0; off <= 64; off++ {
				got, e := roll.Lay(b, api.Patch{Off: off, Data: none}, 77)
				same(t, "raw", got, e, b, api.OK)
			}
			for kind := 1; kind <= 6; kind++ {
				want := sealed(kind, 77, loadOf(b, kind))
				for off := 0; off <= 54; off++ {
					got, e := roll.Lay(b, api.Patch{Off: off, Data: none, Kind: kind}, 77)
					same(t, "sealed", got, e, want, api.OK)
				}
			}
		}
	}
}

// 15.2: rolls go on with the patches behind one without bytes; alone, too, one of a sealed kind brings a turn, and a raw one does not.
func TestRollsWithoutBytes(t *testing.T) {
	b := sealed(4, 5, api.Load{7, 8, 9})
	l := []api.Patch{
		{Id: 1, Kind: 4, Off: 54},
		{Id: 2, Kind: 4, Off: 1, Data: []byte{1}},
		{Id: 3, Kind: 4, Data: []byte{}},
		{Id: 4, Kind: 4, Off: 2, Data: []byte{2}},
	}
	got, e := roll.Now(b, l)
	same(t, "Now", got, e, sealed(4, 6, api.Load{7, 1, 2}), api.OK)
	got, e = roll.Some(b, l, []int{1, 3})
	same(t, "Some of those without bytes", got, e, sealed(4, 6, api.Load{7, 8, 9}), api.OK)
	got, e = roll.Some(b, l, []int{3, 4})
	same(t, "Some", got, e, sealed(4, 6, api.Load{7, 8, 2}), api.OK)
	if rest := roll.Without(l, []int{2, 4}); len(rest) != 2 || !alike(rest[0], l[0]) || !alike(rest[1], l[2]) {
		t.Errorf("Without: %v", rest)
	}
	raw := []api.Patch{{Id: 1}, {Id: 2, Off: 64}}
	got, e = roll.Now(b, raw)
	same(t, "raw ones alone", got, e, b, api.OK)
	got, e = roll.Some(b, raw, []int{2})
	same(t, "some raw ones alone", got, e, b, api.OK)
	got, e = roll.Now(b, append(raw, l...))
	same(t, "behind raw ones", got, e, sealed(4, 6, api.Load{7, 1, 2}), api.OK)
	// One of another kind takes the load away, whatever comes behind it.
	got, e = roll.Now(b, append([]api.Patch{{Id: 5, Kind: 6}}, l...))
	same(t, "behind another kind", got, e, sealed(4, 6, api.Load{1: 1, 2: 2}), api.OK)
	// A wrong one behind it is still the error.
	got, e = roll.Now(b, []api.Patch{l[0], l[1], {Kind: 4, Off: 55}})
	same(t, "a wrong one behind", got, e, b, api.ErrArg)
}

// wrongs are patches that may not be.
func wrongs() []api.Patch {
	var l []api.Patch
	for _, kind := range []int{-1, 7, 8, 255, 256, 260, -252, 1<<32 + 4, math.MinInt, math.MinInt + 4, math.MaxInt} {
		l = append(l, api.Patch{Data: []byte{1}, Kind: kind})
	}
	for _, off := range []int{-1, 64, 65, 128, 1 << 32, math.MinInt, math.MinInt + 1, math.MaxInt, math.MaxInt - 1} {
		l = append(l, api.Patch{Off: off, Data: []byte{1}}, api.Patch{Off: off, Data: []byte{1, 2}, Kind: 4})
	}
	return append(l,
		api.Patch{Off: 54, Data: []byte{1}, Kind: 4},
		api.Patch{Off: 53, Data: []byte{1, 2}, Kind: 4},
		api.Patch{Off: 63, Data: []byte{1, 2}},
		api.Patch{Off: 1, Data: full(64)},
		api.Patch{Data: full(65)},
		api.Patch{Data: full(55), Kind: 1},
		api.Patch{Data: full(64), Kind: 6},
		api.Patch{Data: full(100000), Kind: 6},
		api.Patch{Off: math.MaxInt, Data: full(100000)},
		api.Patch{Off: math.MinInt, Data: full(100000)},
		api.Patch{Off: -1},
		api.Patch{Off: 65, Data: []byte{}},
		api.Patch{Off: math.MinInt},
		api.Patch{Off: math.MaxInt},
		api.Patch{Off: -1, Kind: 4},
		api.Patch{Off: 55, Kind: 4},
		api.Patch{Off: 64, Kind: 6},
		api.Patch{Off: math.MinInt, Kind: 4},
		api.Patch{Off: math.MaxInt, Kind: 4},
		api.Patch{Kind: -1},
		api.Patch{Kind: 7},
	)
}

// 15.1, 15.2: a patch that may not be is ErrArg, alone and wherever it stands among others; the bytes, and what was handed in, are as they were.
func TestWrong(t *testing.T) {
	good := api.Patch{Id: 2, Data: []byte{1, 2, 3}, Kind: 4}
	for _, b := range sectors() {
		for _, p := range wrongs() {
			p.Id = 1
			was := deep([]api.Patch{p})
			got, e := roll.Lay(b, p, 9)
			same(t, "Lay", got, e, b, api.ErrArg)
			for _, l := range [][]api.Patch{{p}, {p, good}, {good, p}, {good, p, good}, {p, p}, {good, good, p, p}} {
				was, kept := deep(l), b
				got, e = roll.Now(b, l)
				same(t, "Now", got, e, b, api.ErrArg)
				got, e = roll.Some(b, l, []int{2, 1})
				same(t, "Some", got, e, b, api.ErrArg)
				if b != kept || !slices.EqualFunc(l, was, alike) {
					t.Errorf("%v is %v", was, l)
				}
			}
			if !alike(p, was[0]) {
				t.Errorf("%v is %v", was[0], p)
			}
		}
	}
}

// 15.2: a wrong patch that is not asked for is no error.
func TestWrongOfOthers(t *testing.T) {
	b := sealed(4, 5, api.Load{7, 7})
	for _, p := range wrongs() {
		p.Id = 1
		l := []api.Patch{p, {Id: 2, Data: []byte{3}, Kind: 4}, p}
		got, e := roll.Some(b, l, []int{2, 3})
		same(t, "Some", got, e, sealed(4, 6, api.Load{3, 7}), api.OK)
		got, e = roll.Some(b, l, nil)
		same(t, "Some of none", got, e, b, api.OK)
		if rest := roll.Without(l, []int{2}); len(rest) != 2 || !alike(rest[0], p) || !alike(rest[1], p) {
			t.Errorf("Without: %v", rest)
		}
	}
}

// 15.1: the sector that a patch is of, its needs, and whom it is of, play no part.
func TestWhatPlaysNoPart(t *testing.T) {
	b := sealed(4, 5, api.Load{7, 7})
	for _, n := range []int{math.MinInt, -1, 0, 1, api.MaxSectors, math.MaxInt} {
		p := api.Patch{Id: n, At: n, Off: 1, Data: []byte{2}, Kind: 4, Needs: []int{n, n}, Owner: n, Child: n, Written: n&1 == 1}
		got, e := roll.Lay(b, p, 6)
		same(t, "Lay", got, e, sealed(4, 6, api.Load{7, 2}), api.OK)
		got, e = roll.Now(b, []api.Patch{p})
		same(t, "Now", got, e, sealed(4, 6, api.Load{7, 2}), api.OK)
		got, e = roll.Some(b, []api.Patch{p}, []int{n})
		same(t, "Some", got, e, sealed(4, 6, api.Load{7, 2}), api.OK)
	}
}

// 15.1: the turn behind those of sectors of each kind, and behind bytes that are right of none.
func TestTurn(t *testing.T) {
	for kind := 1; kind <= 6; kind++ {
		for turn, want := range map[uint32]uint32{0: 1, 1: 2, 5: 6, 255: 256, 1<<31 - 1: 1 << 31, math.MaxUint32 - 1: math.MaxUint32, math.MaxUint32: 0} {
			b := sealed(kind, turn, api.Load(full(54)))
			if got := roll.Turn(b); got != want {
				t.Errorf("behind turn %d of kind %d: %d, want %d", turn, kind, got, want)
			}
			for i := range b {
				c := b
				c[i] ^= 0x40
				if got := roll.Turn(c); got != 1 {
					t.Errorf("behind one with byte %d turned: %d, want 1", i, got)
				}
			}
		}
	}
	for _, b := range []api.Block{{}, api.Block(full(64)), sealed(0, 8, api.Load{}), sealed(7, 8, api.Load{})} {
		if got := roll.Turn(b); got != 1 {
			t.Errorf("behind %v: %d, want 1", b, got)
		}
	}
}

// 15.1: a load of the kind of which the sector is right, and noughts of all others.
func TestLoad(t *testing.T) {
	none := []int{0, 7, -1, 255, 256, 257, 260, -252, 1<<32 + 4, math.MinInt, math.MinInt + 4, math.MaxInt}
	for _, b := range sectors() {
		for kind := 1; kind <= 6; kind++ {
			if got := roll.Load(b, kind); got != loadOf(b, kind) {
				t.Errorf("Load of kind %d of %v: %v", kind, b, got)
			}
		}
		for _, kind := range none {
			if got := roll.Load(b, kind); got != (api.Load{}) {
				t.Errorf("Load of kind %d of %v: %v", kind, b, got)
			}
		}
	}
	if got := roll.Load(sealed(6, 3, api.Load(full(54))), 6); got != api.Load(full(54)) {
		t.Errorf("Load: %v", got)
	}
}

// 15.2: patches over one another, in order, all with the one turn behind that of the bytes.
func TestNow(t *testing.T) {
	l := []api.Patch{
		{Id: 1, Off: 0, Data: []byte{1, 2, 3}, Kind: 4},
		{Id: 2, Off: 1, Data: []byte{4, 5}, Kind: 4},
		{Id: 3, Off: 2, Data: []byte{6}, Kind: 4},
		{Id: 4, Off: 53, Data: []byte{7}, Kind: 4},
	}
	for turn, next := range map[uint32]uint32{0: 1, 5: 6, math.MaxUint32 - 1: math.MaxUint32, math.MaxUint32: 0} {
		b, e := roll.Now(sealed(4, turn, api.Load{3: 9}), l)
		same(t, "Now", b, e, sealed(4, next, api.Load{1, 4, 6, 9, 53: 7}), api.OK)
	}
	b, e := roll.Now(sealed(6, 40, api.Load{3: 9}), l)
	same(t, "over another kind", b, e, sealed(4, 41, api.Load{1, 4, 6, 53: 7}), api.OK)
	b, e = roll.Now(api.Block(full(64)), l)
	same(t, "over no kind", b, e, sealed(4, 1, api.Load{1, 4, 6, 53: 7}), api.OK)
	slices.Reverse(l)
	b, e = roll.Now(api.Block{}, l)
	same(t, "the other way round", b, e, sealed(4, 1, api.Load{1, 2, 3, 53: 7}), api.OK)
}

// 15.2: raw and sealed patches in one list, of several kinds.
func TestNowMixed(t *testing.T) {
	b := sealed(4, 40, api.Load{1, 1, 1})
	inode := api.Patch{Id: 1, Off: 0, Data: []byte{2}, Kind: 4}
	raw := api.Patch{Id: 2, Off: 2, Data: []byte{3}}
	dir := api.Patch{Id: 3, Off: 1, Data: []byte{4}, Kind: 6}
	torn := sealed(4, 41, api.Load{2, 1, 1})
	torn[2] = 3
	got, e := roll.Now(b, []api.Patch{inode, raw})
	same(t, "a raw one last", got, e, torn, api.OK)
	// What is torn is right of no kind; the turn is still the one behind that of the bytes.
	got, e = roll.Now(b, []api.Patch{raw, inode})
	same(t, "a raw one first", got, e, sealed(4, 41, api.Load{2}), api.OK)
	got, e = roll.Now(b, []api.Patch{inode, raw, inode, dir})
	same(t, "another kind last", got, e, sealed(6, 41, api.Load{1: 4}), api.OK)
	got, e = roll.Now(b, []api.Patch{dir, inode})
	same(t, "another kind first", got, e, sealed(4, 41, api.Load{2}), api.OK)
	// A raw patch of a whole sector that is right brings its load, and not its turn.
	whole := sealed(4, 90, api.Load{5, 5, 5})
	got, e = roll.Now(api.Block{}, []api.Patch{{Data: whole[:]}, inode})
	same(t, "a whole sector", got, e, sealed(4, 1, api.Load{2, 5, 5}), api.OK)
	// A raw patch that leaves the bytes as they are leaves them right.
	got, e = roll.Now(b, []api.Patch{{Off: 1, Data: []byte{1, 1}}, inode})
	same(t, "raw, of what is there", got, e, sealed(4, 41, api.Load{2, 1, 1}), api.OK)
}

// 15.2: Ids that several patches have, that none has, that stand twice, and in any order.
func TestSomeAndWithout(t *testing.T) {
	l := []api.Patch{
		{Id: 5, Off: 0, Data: []byte{1, 1}, Kind: 4},
		{Id: -3, Off: 1, Data: []byte{2, 2}, Kind: 4},
		{Id: 5, Off: 2, Data: []byte{3, 3}, Kind: 4},
		{Id: math.MaxInt, Off: 3, Data: []byte{4}, Kind: 4},
		{Id: math.MinInt, Off: 53, Data: []byte{5}, Kind: 4},
		{Id: 0, Off: 0, Data: []byte{6}, Kind: 4},
	}
	b := sealed(4, 8, api.Load{9, 9, 9, 9, 9})
	for _, c := range []struct {
		ids  []int
		want api.Load
		left []int
	}{
		{[]int{5}, api.Load{1, 1, 3, 3, 9}, []int{1, 3, 4, 5}},
		{[]int{5, 5, 5}, api.Load{1, 1, 3, 3, 9}, []int{1, 3, 4, 5}},
		{[]int{-3, 5}, api.Load{1, 2, 3, 3, 9}, []int{3, 4, 5}},
		{[]int{5, -3, 77}, api.Load{1, 2, 3, 3, 9}, []int{3, 4, 5}},
		{[]int{math.MaxInt, math.MinInt}, api.Load{9, 9, 9, 4, 9, 53: 5}, []int{0, 1, 2, 5}},
		{[]int{0, 5}, api.Load{6, 1, 3, 3, 9}, []int{1, 3, 4}},
		{[]int{5, -3, 0, math.MaxInt, math.MinInt}, api.Load{6, 2, 3, 4, 9, 53: 5}, nil},
	} {
		got, e := roll.Some(b, l, c.ids)
		same(t, "Some", got, e, sealed(4, 9, c.want), api.OK)
		var want []api.Patch
		for _, i := range c.left {
			want = append(want, l[i])
		}
		if rest := roll.Without(l, c.ids); !slices.EqualFunc(rest, want, alike) {
			t.Errorf("Without %v: %v, want %v", c.ids, rest, want)
		}
	}
	for _, ids := range [][]int{nil, {}, {1, 2, 3}} {
		if rest := roll.Without(l, ids); !slices.EqualFunc(rest, l, alike) {
			t.Errorf("Without %v: %v", ids, rest)
		}
		if rest := roll.Without(nil, ids); len(rest) != 0 {
			t.Errorf("Without of none: %v", rest)
		}
	}
}

// 15.4: a roll of no patches is the bytes, whatever they are: not sealed anew, and no turn on.
func TestNothing(t *testing.T) {
	l := []api.Patch{{Id: 1, Data: []byte{1}, Kind: 4}, {Id: 2, Data: []byte{1}}}
	for _, b := range sectors() {
		for _, none := range [][]api.Patch{nil, {}} {
			got, e := roll.Now(b, none)
			same(t, "Now", got, e, b, api.OK)
			got, e = roll.Some(b, none, []int{1, 2})
			same(t, "Some of an empty list", got, e, b, api.OK)
			got, e = roll.Some(b, none, nil)
			same(t, "Some of nothing", got, e, b, api.OK)
		}
		for _, ids := range [][]int{nil, {}, {0, 3, -1}} {
			got, e := roll.Some(b, l, ids)
			same(t, "Some without Ids", got, e, b, api.OK)
		}
		got, e := roll.Now(b, roll.Without(l, []int{2, 1}))
		same(t, "Now of what is left", got, e, b, api.OK)
	}
}

// 15.1, 15.2: what is handed in stays as it was, and what is told is the caller's own.
func TestOwn(t *testing.T) {
	shared, needs := []byte{1, 2, 3}, []int{4, 5}
	l := []api.Patch{
		{Id: 1, At: 3, Off: 2, Data: shared, Kind: 4, Needs: needs, Owner: 6, Child: 7, Written: true},
		{Id: 2, At: 3, Off: 9, Data: shared, Kind: 4, Needs: needs},
		{Id: 3, At: 3, Off: 9, Data: shared[:1], Kind: 4, Needs: needs[:1]},
	}
	ids := []int{9, 2, 9}
	b := sealed(4, 5, api.Load{7})
	was, kept := deep(l), b
	roll.Lay(b, l[0], 6)
	roll.Now(b, l)
	roll.Some(b, l, ids)
	rest, again := roll.Without(l, ids), roll.Without(l, ids)
	whole := roll.Without(l, nil)
	if b != kept || !slices.EqualFunc(l, was, alike) || !slices.Equal(ids, []int{9, 2, 9}) {
		t.Fatalf("what was handed in is %v, %v, %v", b, l, ids)
	}
	want := []api.Patch{was[0], was[2]}
	spoil(rest[0])
	if !slices.EqualFunc(l, was, alike) || !alike(rest[1], want[1]) || !slices.EqualFunc(again, want, alike) || !slices.EqualFunc(whole, was, alike) {
		t.Errorf("one that is told changed what was handed in, or others: %v, %v, %v, %v", l, rest, again, whole)
	}
	whole[0] = api.Patch{}
	_ = append(whole[:1], api.Patch{})
	if !slices.EqualFunc(l, was, alike) {
		t.Errorf("a list that is told changed what was handed in: %v", l)
	}
	spoil(l[0])
	l[2] = api.Patch{}
	if !slices.EqualFunc(again, want, alike) {
		t.Errorf("what was told is %v, want %v", again, want)
	}
}

// spoil turns all bytes and needs of p, and those that lists of it have room for.
func spoil(p api.Patch) {
	for i := range p.Data[:cap(p.Data)] {
		p.Data[:cap(p.Data)][i] ^= 255
	}
	for i := range p.Needs[:cap(p.Needs)] {
		p.Needs[:cap(p.Needs)][i] ^= 255
	}
}

// 15.2: lists of many patches, and of many Ids.
func TestMany(t *testing.T) {
	const n = 20000
	var l []api.Patch
	var ids []int
	for i := range n {
		l = append(l, api.Patch{Id: i, Off: i % 54, Data: []byte{byte(i)}, Kind: 4})
		if i%2 == 0 {
			ids = append(ids, i)
		}
	}
	b := sealed(4, 5, api.Load{})
	got, e := roll.Now(b, l)
	want, _ := rolled(b, l)
	same(t, "Now", got, e, want, api.OK)
	some, rest := parted(l[:400], ids[:200])
	got, e = roll.Some(b, l[:400], ids)
	want, _ = rolled(b, some)
	same(t, "Some", got, e, want, api.OK)
	if left := roll.Without(l, ids); len(left) != n/2 || !slices.EqualFunc(left[:200], rest, alike) {
		t.Errorf("Without: %d are left", len(left))
	}
}
