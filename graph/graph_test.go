package graph_test

import (
	"math"
	"slices"
	"testing"

	"scupper/api"
	"scupper/graph"
)

// list holds two lists of numbers against each other.
func list(t *testing.T, what string, got []int, want ...int) {
	t.Helper()
	if !slices.Equal(got, want) {
		t.Errorf("%s: %v, want %v", what, got, want)
	}
}

func errno(t *testing.T, what string, got, want api.Errno) {
	t.Helper()
	if got != want {
		t.Errorf("%s: %v, want %v", what, got, want)
	}
}

// put adds a patch of KindInode that must be taken in.
func put(t *testing.T, g *graph.Graph, at, off, size int, needs ...int) int {
	t.Helper()
	return putKind(t, g, api.KindInode, at, off, size, needs...)
}

func putKind(t *testing.T, g *graph.Graph, kind, at, off, size int, needs ...int) int {
	t.Helper()
	id, e := g.Add(api.Patch{At: at, Off: off, Data: make([]byte, size), Kind: kind, Needs: needs})
	if e != api.OK {
		t.Fatalf("a patch of sector %d at %d: %v", at, off, e)
	}
	return id
}

// 14.1, 14.2: the chapter's example.
func TestExample(t *testing.T) {
	g := graph.New()
	put(t, g, 3, 0, 2)
	put(t, g, 4, 0, 2, 1)
	list(t, "ready of 3", g.Ready(3), 1)
	list(t, "ready of 4", g.Ready(4))
	errno(t, "2 ahead of 1", g.Write(2), api.ErrCycle)
	errno(t, "1", g.Write(1), api.OK)
	list(t, "ready of 4, as 1 is written and not stable", g.Ready(4))
	errno(t, "2, as 1 is written and not stable", g.Write(2), api.ErrCycle)
	if n := g.Settle(3); n != 1 {
		t.Errorf("%d settle, want 1", n)
	}
	list(t, "ready of 4 behind it", g.Ready(4), 2)
	errno(t, "2 behind 1", g.Write(2), api.OK)
}

// 14.1: an empty graph tells nothing, and is nobody else's.
func TestNew(t *testing.T) {
	g, h := graph.New(), graph.New()
	if g == nil || g == h {
		t.Fatal("New is none, or one for all")
	}
	put(t, h, 1, 0, 1)
	list(t, "All", g.All())
	list(t, "Written", g.Written())
	list(t, "Sectors", g.Sectors())
	list(t, "Ready", g.Ready(1))
	list(t, "Needed", g.Needed(1))
	list(t, "By", g.By(0))
	list(t, "About", g.About(0))
	if len(g.Of(1)) != 0 || g.Settle(1) != 0 || g.SettleAll() != 0 {
		t.Error("an empty graph has something")
	}
	if _, e := g.Get(1); e != api.ErrNone {
		t.Errorf("Get: %v", e)
	}
	errno(t, "Write of none", g.Write(), api.OK)
	errno(t, "Write", g.Write(1), api.ErrNone)
	list(t, "All of a copy", g.Copy().All())
}

// 14.1: numbers come from 1 on, whatever Id and Written say; all else is told as it came.
func TestAddAndGet(t *testing.T) {
	g := graph.New()
	first := api.Patch{Id: 77, At: 5, Off: 3, Data: []byte{9, 8}, Kind: api.KindDir, Owner: -4, Child: math.MaxInt, Written: true}
	second := api.Patch{Id: -1, At: 5, Off: 60, Data: []byte{7, 6, 5, 4}, Kind: api.KindRaw, Needs: []int{1, 1}, Owner: math.MinInt, Child: 6}
	for k, p := range []api.Patch{first, second} {
		id, e := g.Add(p)
		if id != k+1 || e != api.OK {
			t.Errorf("Add: %d, %v, want %d", id, e, k+1)
		}
		got, e := g.Get(k + 1)
		p.Id, p.Written = k+1, false
		if e != api.OK || !alike(got, p) {
			t.Errorf("Get(%d): %v, %v, want %v", k+1, got, e, p)
		}
	}
	first.Id, first.Written = 1, false
	second.Id, second.Written = 2, false
	if l := g.Of(5); !slices.EqualFunc(l, []api.Patch{first, second}, alike) {
		t.Errorf("Of: %v", l)
	}
	errno(t, "Write", g.Write(1), api.OK)
	first.Written = true
	if p, e := g.Get(1); e != api.OK || !alike(p, first) {
		t.Errorf("Get of one that is written: %v, %v", p, e)
	}
	if l := g.Of(5); !slices.EqualFunc(l, []api.Patch{second}, alike) {
		t.Errorf("Of, as one is written: %v", l)
	}
	g.SettleAll()
	// What is needed stays told, though it is stable.
	if p, e := g.Get(2); e != api.OK || !alike(p, second) {
		t.Errorf("Get of one whose needs are stable: %v, %v", p, e)
	}
	list(t, "By", g.By(math.MinInt), 2)
	list(t, "About", g.About(6), 2)
	list(t, "By what is stable", g.By(-4))
	list(t, "About what is stable", g.About(math.MaxInt))
}

// 14.1: at each kind, each place and each length: what is within the sector, or its load, is taken in.
func TestAddEveryPlace(t *testing.T) {
	g := graph.New()
	n := 0
	for kind := -1; kind <= 7; kind++ {
		most := 64
		if kind != 0 {
			most = 54
		}
		for off := -2; off <= 66; off++ {
			for size := 0; size <= 66; size++ {
				id, e := g.Add(api.Patch{At: n % 2048, Off: off, Data: make([]byte, size), Kind: kind})
				ok := kind >= 0 && kind <= 6 && off >= 0 && size > 0 && off+size <= most
				if ok {
					n++
				}
				if ok != (e == api.OK) || !ok && (e != api.ErrArg || id != 0) || ok && id != n {
					t.Fatalf("kind %d, from %d on, %d bytes: %d, %v", kind, off, size, id, e)
				}
			}
		}
	}
	if l := g.All(); len(l) != n || l[0] != 1 || l[n-1] != n {
		t.Errorf("%d patches, want %d", len(l), n)
	}
}

// 14.1: the edges that the chapter names are taken in.
func TestAddEdges(t *testing.T) {
	g := graph.New()
	putKind(t, g, api.KindRaw, 0, 0, 64)
	putKind(t, g, api.KindRaw, api.MaxSectors-1, 63, 1)
	putKind(t, g, api.KindSuper, 0, 0, 54)
	putKind(t, g, api.KindDir, api.MaxSectors-1, 53, 1, 3, 1)
	list(t, "Sectors", g.Sectors(), 0, 2047)
	list(t, "All", g.All(), 1, 2, 3, 4)
}

// 14.1, P2: what may not be is ErrArg, takes no number, and changes nothing.
func TestAddRefused(t *testing.T) {
	g := graph.New()
	right := api.Patch{At: 1, Off: 2, Data: []byte{1}, Kind: 4, Owner: 5, Child: 5}
	g.Add(right)
	g.Add(right)
	g.Write(1)
	g.SettleAll()
	with := func(change func(p *api.Patch)) api.Patch {
		p := right
		change(&p)
		return p
	}
	var wrong []api.Patch
	for _, n := range []int{math.MinInt, math.MinInt + 1, -1 << 32, -1, 2048, 2049, 1 << 32, math.MaxInt - 1, math.MaxInt} {
		wrong = append(wrong, with(func(p *api.Patch) { p.At = n }))
		wrong = append(wrong, with(func(p *api.Patch) { p.Off = n }))
		wrong = append(wrong, with(func(p *api.Patch) { p.Off, p.Data = n, make([]byte, 54) }))
		wrong = append(wrong, with(func(p *api.Patch) { p.Off, p.Kind = n, api.KindRaw }))
		wrong = append(wrong, with(func(p *api.Patch) { p.Kind = n }))
		wrong = append(wrong, with(func(p *api.Patch) { p.Needs = []int{n} }))
		wrong = append(wrong, with(func(p *api.Patch) { p.Needs = []int{1, 2, n} }))
		wrong = append(wrong, with(func(p *api.Patch) { p.Needs = []int{n, 1} }))
	}
	for _, n := range []int{0, 3, 4} {
		wrong = append(wrong, with(func(p *api.Patch) { p.Needs = []int{n} }))
		wrong = append(wrong, with(func(p *api.Patch) { p.Needs = []int{2, n} }))
	}
	wrong = append(wrong, with(func(p *api.Patch) { p.Kind = 7 }))
	wrong = append(wrong, with(func(p *api.Patch) { p.Data = nil }))
	wrong = append(wrong, with(func(p *api.Patch) { p.Data = []byte{} }))
	wrong = append(wrong, with(func(p *api.Patch) { p.Off, p.Data = 0, make([]byte, 55) }))
	wrong = append(wrong, with(func(p *api.Patch) { p.Off = 54 }))
	wrong = append(wrong, with(func(p *api.Patch) { p.Off, p.Kind = 64, api.KindRaw }))
	wrong = append(wrong, with(func(p *api.Patch) { p.Off, p.Kind, p.Data = 0, api.KindRaw, make([]byte, 65) }))
	wrong = append(wrong, with(func(p *api.Patch) { p.Off, p.Kind, p.Data = 0, api.KindRaw, make([]byte, 5000) }))
	for _, p := range wrong {
		if id, e := g.Add(p); id != 0 || e != api.ErrArg {
			t.Errorf("Add(%v): %d, %v", p, id, e)
		}
	}
	list(t, "All", g.All(), 2)
	list(t, "Sectors", g.Sectors(), 1)
	list(t, "By", g.By(5), 2)
	if id := put(t, g, 1, 0, 1, 1, 2); id != 3 {
		t.Errorf("the next number is %d, want 3", id)
	}
}

// 14.1: needs that are stable already hold nothing up.
func TestNeedsThatAreStable(t *testing.T) {
	g := graph.New()
	put(t, g, 1, 0, 1)
	g.Write(1)
	g.Settle(1)
	put(t, g, 2, 0, 1, 1)
	list(t, "Ready", g.Ready(2), 2)
	list(t, "Needed", g.Needed(2), 2)
	errno(t, "Write", g.Write(2), api.OK)
}

// 14.1: of two patches of one sector, at each place and of two kinds: the later one is ready, though the first waits for another, just if they do not meet.
func TestMeet(t *testing.T) {
	for off1 := range 6 {
		for size1 := 1; size1 <= 4; size1++ {
			for off2 := range 6 {
				for size2 := 1; size2 <= 4; size2++ {
					for _, kind := range []int{api.KindDir, api.KindPtrs, api.KindRaw} {
						g := graph.New()
						put(t, g, 9, 0, 1)
						putKind(t, g, api.KindDir, 3, 50+off1-9, size1, 1)
						putKind(t, g, kind, 3, 50+off2-9, size2)
						apart := kind == api.KindDir && (off1+size1 <= off2 || off2+size2 <= off1)
						if got := len(g.Ready(3)) == 1; got != apart {
							t.Fatalf("%d bytes from %d on and %d from %d on, kind %d: apart %v", size1, off1, size2, off2, kind, got)
						}
						if got := len(g.Needed(3)) == 1; got != apart {
							t.Fatalf("%d bytes from %d on and %d from %d on, kind %d: needs none but itself %v", size1, off1, size2, off2, kind, got)
						}
						if got := g.Write(3) == api.OK; got != apart {
							t.Fatalf("%d bytes from %d on and %d from %d on, kind %d: written %v", size1, off1, size2, off2, kind, got)
						}
					}
				}
			}
		}
	}
}

// 14.1: bytes at a sector's very ends meet what is there, and nothing else.
func TestMeetAtTheEnds(t *testing.T) {
	for _, c := range []struct {
		off1, size1, off2, size2 int
		meet                     bool
	}{
		{0, 64, 63, 1, true}, {0, 64, 0, 1, true}, {0, 64, 0, 64, true}, {0, 63, 63, 1, false}, {0, 64, 31, 2, true},
		{63, 1, 0, 63, false}, {63, 1, 62, 1, false}, {63, 1, 62, 2, true}, {1, 63, 0, 1, false}, {1, 63, 0, 2, true},
		{31, 1, 32, 1, false}, {31, 2, 32, 1, true}, {0, 1, 32, 32, false}, {0, 1, 0, 1, true},
	} {
		g := graph.New()
		put(t, g, 9, 0, 1)
		putKind(t, g, api.KindRaw, 3, c.off1, c.size1, 1)
		putKind(t, g, api.KindRaw, 3, c.off2, c.size2)
		putKind(t, g, api.KindRaw, 4, c.off2, c.size2)
		if got := len(g.Ready(3)) == 0; got != c.meet {
			t.Errorf("%v: meet %v", c, got)
		}
		list(t, "of another sector", g.Ready(4), 4)
	}
}

// 14.1: unlike kinds of one sector meet, whatever their bytes; those of two sectors do not.
func TestUnlikeKinds(t *testing.T) {
	for k := range 7 {
		for j := range 7 {
			g := graph.New()
			put(t, g, 9, 0, 1)
			putKind(t, g, k, 3, 0, 1, 1)
			putKind(t, g, j, 3, 40, 1)
			putKind(t, g, j, 4, 0, 1)
			want := []int{3}
			if k != j {
				want = nil
			}
			list(t, "of one sector", g.Ready(3), want...)
			list(t, "of two", g.Ready(4), 4)
		}
	}
}

// 14.1: one that comes first meets only those of greater numbers: it does not wait for them.
func TestGreaterNumbersHoldNothingUp(t *testing.T) {
	g := graph.New()
	put(t, g, 3, 0, 2)
	put(t, g, 3, 1, 2)
	put(t, g, 4, 0, 1)
	put(t, g, 3, 0, 2, 3)
	list(t, "Ready", g.Ready(3), 1, 2)
	list(t, "Needed(1)", g.Needed(1), 1)
	list(t, "Needed(2)", g.Needed(2), 1, 2)
	list(t, "Needed(4)", g.Needed(4), 1, 2, 3, 4)
	errno(t, "Write", g.Write(1), api.OK)
	list(t, "Ready behind it", g.Ready(3), 2)
}

// 14.1: it is not ready, if one that it meets is not, though they do not need the same, and though others stand between.
func TestNotReadyByAnother(t *testing.T) {
	g := graph.New()
	put(t, g, 9, 0, 1)
	put(t, g, 3, 0, 2, 1) // not ready: it needs 1
	put(t, g, 3, 1, 2)    // not ready: it meets 2
	put(t, g, 3, 2, 2)    // not ready: it meets 3
	put(t, g, 3, 4, 2)    // it meets none of them
	put(t, g, 3, 5, 2)    // it meets 5 alone
	list(t, "Ready", g.Ready(3), 5, 6)
	list(t, "Needed(4)", g.Needed(4), 1, 2, 3, 4)
	list(t, "Needed(6)", g.Needed(6), 5, 6)
	g.Write(1)
	list(t, "Ready, as 1 is written", g.Ready(3), 5, 6)
	g.Settle(9)
	list(t, "Ready, as 1 is stable", g.Ready(3), 2, 3, 4, 5, 6)
}

// 14.1, 14.2, 14.4: one is ready, though one with a lesser number that meets it is not written; but it is written behind that one alone.
func TestReadyTogether(t *testing.T) {
	g := graph.New()
	put(t, g, 3, 0, 2)
	put(t, g, 3, 1, 2)
	list(t, "Ready", g.Ready(3), 1, 2)
	h := g.Copy()
	errno(t, "2 alone", g.Write(2), api.ErrCycle)
	list(t, "Written", g.Written())
	errno(t, "1 and 2", g.Write(1, 2), api.OK)
	list(t, "Written", g.Written(), 1, 2)
	errno(t, "2 and 1", h.Write(2, 1), api.ErrCycle)
	list(t, "Written", h.Written())
	list(t, "Ready", h.Ready(3), 1, 2)
	// Behind a written one that meets it nothing need be stable.
	errno(t, "1", h.Write(1), api.OK)
	errno(t, "2", h.Write(2), api.OK)
}

// 14.1: a chain of needs over several sectors; Needed goes all the way down.
func TestChain(t *testing.T) {
	g := graph.New()
	const n = 300
	for i := 1; i <= n; i++ {
		if i == 1 {
			put(t, g, i, 0, 1)
		} else {
			put(t, g, i, 0, 1, i-1)
		}
	}
	all := g.All()
	list(t, "Needed of the last", g.Needed(n), all...)
	list(t, "Needed of the middle", g.Needed(150), all[:150]...)
	list(t, "Sectors", g.Sectors(), all...)
	for i := 1; i <= n; i++ {
		if i < n {
			list(t, "Ready of the next", g.Ready(i+1))
			errno(t, "the next", g.Write(i+1), api.ErrCycle)
		}
		list(t, "Ready", g.Ready(i), i)
		errno(t, "Write", g.Write(i), api.OK)
		list(t, "Ready of what is written", g.Ready(i))
		if k := g.Settle(i); k != 1 {
			t.Fatalf("%d settle", k)
		}
		list(t, "Needed", g.Needed(n), all[i:]...)
	}
	list(t, "All", g.All())
	list(t, "Sectors", g.Sectors())
}

// 14.1: Needed of none, of one twice, in any order, of some that are not there, of what is written.
func TestNeeded(t *testing.T) {
	g := graph.New()
	put(t, g, 1, 0, 1)
	put(t, g, 2, 0, 1)
	put(t, g, 2, 0, 1)
	put(t, g, 3, 0, 1, 1)
	list(t, "of none", g.Needed())
	list(t, "of one twice", g.Needed(4, 4), 1, 4)
	list(t, "of several", g.Needed(4, 3), 1, 2, 3, 4)
	list(t, "in another order", g.Needed(3, 1, 4), 1, 2, 3, 4)
	list(t, "of such as are not there", g.Needed(0, -1, 5, math.MinInt, math.MaxInt))
	list(t, "of one that is there beside them", g.Needed(math.MaxInt, 2, 5, -1), 2)
	errno(t, "Write", g.Write(2, 3), api.OK)
	list(t, "of what is written, which needs no lesser one", g.Needed(3), 3)
	put(t, g, 2, 0, 2)
	list(t, "of one that meets what is written", g.Needed(5), 5)
	g.Write(1)
	list(t, "of one that needs what is written, and not stable", g.Needed(4), 1, 4)
	g.SettleAll()
	list(t, "of one that needs what is stable", g.Needed(4), 4)
	list(t, "of what is stable", g.Needed(1, 2, 3))
}

// 14.1: it is not needed by something for which it has a greater number, nor by what is of another sector.
func TestNotNeeded(t *testing.T) {
	g := graph.New()
	put(t, g, 2, 0, 1)
	put(t, g, 2, 1, 1)
	put(t, g, 3, 0, 2)
	put(t, g, 2, 0, 2)
	list(t, "of the first", g.Needed(1), 1)
	list(t, "of the second", g.Needed(2), 2)
	list(t, "of the third", g.Needed(3), 3)
	list(t, "of the fourth", g.Needed(4), 1, 2, 4)
}

// 14.2: several are written one by one; those ahead of an error stay so, those behind it do not come about.
func TestWriteSeveral(t *testing.T) {
	g := graph.New()
	put(t, g, 1, 0, 1)
	put(t, g, 1, 5, 1)
	put(t, g, 2, 0, 1, 1)
	put(t, g, 2, 9, 1)
	errno(t, "1, 3, 4", g.Write(1, 3, 4), api.ErrCycle)
	list(t, "Written", g.Written(), 1)
	errno(t, "4, 7, 2", g.Write(4, 7, 2), api.ErrNone)
	list(t, "Written", g.Written(), 1, 4)
	errno(t, "2, 2", g.Write(2, 2), api.ErrCycle)
	list(t, "Written", g.Written(), 1, 2, 4)
	list(t, "Sectors", g.Sectors(), 2)
	errno(t, "an error ahead of all", g.Write(-1, 3), api.ErrNone)
	list(t, "Written", g.Written(), 1, 2, 4)
	errno(t, "none", g.Write(), api.OK)
}

// 14.2: of numbers that were never given, of what is stable, and of what is written already.
func TestWriteRefused(t *testing.T) {
	g := graph.New()
	put(t, g, 1, 0, 1)
	put(t, g, 1, 1, 1)
	g.Write(1)
	g.Settle(1)
	for _, id := range []int{math.MinInt, -1, 0, 1, 3, 1 << 32, 1<<32 + 2, math.MaxInt} {
		errno(t, "Write", g.Write(id), api.ErrNone)
		p, e := g.Get(id)
		if e != api.ErrNone || !alike(p, api.Patch{}) {
			t.Errorf("Get(%d): %v, %v", id, p, e)
		}
	}
	list(t, "Written", g.Written())
	errno(t, "Write", g.Write(2), api.OK)
	errno(t, "once more", g.Write(2), api.ErrCycle)
	list(t, "Written", g.Written(), 2)
}

// 14.2: Settle is of one sector, and of what is written alone.
func TestSettle(t *testing.T) {
	g := graph.New()
	put(t, g, 1, 0, 1)
	put(t, g, 1, 1, 1)
	put(t, g, 1, 2, 1)
	put(t, g, 2, 0, 1)
	put(t, g, 0, 0, 1)
	if g.Settle(1) != 0 || g.SettleAll() != 0 {
		t.Error("something settles, and nothing is written")
	}
	g.Write(1, 3, 4, 5)
	for _, at := range []int{-1, 3, 2048, math.MinInt, math.MaxInt} {
		if n := g.Settle(at); n != 0 {
			t.Errorf("%d settle of sector %d", n, at)
		}
	}
	if n := g.Settle(1); n != 2 {
		t.Errorf("%d settle, want 2", n)
	}
	list(t, "All", g.All(), 2, 4, 5)
	list(t, "Written", g.Written(), 4, 5)
	if n := g.Settle(1); n != 0 {
		t.Errorf("%d settle once more", n)
	}
	if n := g.SettleAll(); n != 2 {
		t.Errorf("%d settle of all, want 2", n)
	}
	list(t, "All", g.All(), 2)
	list(t, "Ready", g.Ready(1), 2)
	// Numbers go on, and do not come back.
	if id := put(t, g, 1, 0, 1, 5, 4); id != 6 {
		t.Errorf("the next number is %d, want 6", id)
	}
}

// 14.2: By and About tell what is written, too; each looks at a field of its own.
func TestByAndAbout(t *testing.T) {
	g := graph.New()
	for i := range 6 {
		g.Add(api.Patch{At: 9 - i, Data: []byte{1}, Owner: i % 2, Child: i % 3})
	}
	g.Write(3, 2)
	list(t, "By(0)", g.By(0), 1, 3, 5)
	list(t, "By(1)", g.By(1), 2, 4, 6)
	list(t, "By(2)", g.By(2))
	list(t, "About(0)", g.About(0), 1, 4)
	list(t, "About(2)", g.About(2), 3, 6)
	list(t, "Sectors", g.Sectors(), 4, 5, 6, 9)
	list(t, "Written", g.Written(), 2, 3)
	g.SettleAll()
	list(t, "By(0)", g.By(0), 1, 5)
	list(t, "About(2)", g.About(2), 6)
}

// 14.1: sectors that there are not have nothing.
func TestNoSuchSector(t *testing.T) {
	g := graph.New()
	put(t, g, 0, 0, 1)
	for _, at := range []int{math.MinInt, -1, 1, 2047, 2048, 1 << 32, math.MaxInt} {
		if len(g.Of(at)) != 0 || len(g.Ready(at)) != 0 {
			t.Errorf("sector %d has something", at)
		}
	}
}

// 14.2: a copy has the same, goes on by the same numbers, and neither learns of the other.
func TestCopy(t *testing.T) {
	g := graph.New()
	put(t, g, 1, 0, 1)
	put(t, g, 1, 0, 1)
	put(t, g, 2, 0, 1)
	put(t, g, 2, 0, 1, 1)
	g.Write(3)
	h := g.Copy()
	if h == g {
		t.Fatal("a copy is the graph")
	}
	list(t, "All", h.All(), 1, 2, 3, 4)
	list(t, "Written", h.Written(), 3)
	list(t, "Sectors", h.Sectors(), 1, 2)
	errno(t, "Write", h.Write(1, 2), api.OK)
	h.SettleAll()
	if id := put(t, h, 1, 7, 1, 3); id != 5 {
		t.Errorf("the copy's next number is %d, want 5", id)
	}
	put(t, h, 3, 7, 1)
	list(t, "All of the copy", h.All(), 4, 5, 6)
	list(t, "All", g.All(), 1, 2, 3, 4)
	list(t, "Written", g.Written(), 3)
	list(t, "Ready", g.Ready(1), 1, 2)
	list(t, "Ready", g.Ready(2))
	list(t, "Sectors", g.Sectors(), 1, 2)
	if id := put(t, g, 1, 9, 1); id != 5 {
		t.Errorf("the next number is %d, want 5", id)
	}
	put(t, g, 1, 11, 1)
	list(t, "Ready", g.Ready(1), 1, 2, 5, 6)
	list(t, "Ready of the copy", h.Ready(1), 5)
	g.Write(1, 2)
	g.SettleAll()
	list(t, "All", g.All(), 4, 5, 6)
	list(t, "Ready of the copy", h.Ready(3), 6)
}

// 14.1, 14.2, rule 4: what is handed in is kept by no one, and what is handed out is the caller's own.
func TestOwnMemory(t *testing.T) {
	g := graph.New()
	put(t, g, 9, 0, 1)
	data, needs := []byte{1, 2}, []int{1, 1}
	p := api.Patch{At: 3, Off: 4, Data: data, Kind: 4, Needs: needs}
	g.Add(p)
	if !slices.Equal(data, []byte{1, 2}) || !slices.Equal(needs, []int{1, 1}) || p.Id != 0 {
		t.Error("what was handed in is changed")
	}
	h := g.Copy()
	data[0], needs[0], needs[1] = 7, 2, 2
	want := api.Patch{Id: 2, At: 3, Off: 4, Data: []byte{1, 2}, Kind: 4, Needs: []int{1, 1}}
	spoil := func(p api.Patch) {
		p.Data[0], p.Needs[0], p.Needs[1] = 9, 2, 2
		_, _ = append(p.Data, 5), append(p.Needs, 5)
	}
	for _, one := range []*graph.Graph{g, h} {
		for range 2 {
			q, e := one.Get(2)
			if e != api.OK || !alike(q, want) {
				t.Fatalf("Get: %v, %v", q, e)
			}
			spoil(q)
			l := one.Of(3)
			if len(l) != 1 || !alike(l[0], want) {
				t.Fatalf("Of: %v", l)
			}
			spoil(l[0])
			l[0].Id, l[0].At = 5, 5
		}
		for range 2 {
			list(t, "Ready", one.Ready(9), 1)
			list(t, "All", one.All(), 1, 2)
			list(t, "Sectors", one.Sectors(), 3, 9)
			one.Ready(9)[0] = 2
			one.All()[0] = 7
			one.Sectors()[0] = 9
			one.Needed(2)[0] = 9
			one.By(0)[0] = 9
			one.About(0)[0] = 9
		}
	}
	ids := []int{1, 2}
	list(t, "Needed", g.Needed(ids...), 1, 2)
	g.Write(ids...)
	list(t, "ids", ids, 1, 2)
	g.Written()[0] = 2
	list(t, "Written", g.Written(), 1)
}

// Rule 2: of a graph that is none.
func TestNone(t *testing.T) {
	var g *graph.Graph
	for _, p := range []api.Patch{{}, {At: 1, Data: []byte{1}}, {At: -1, Kind: 9, Needs: []int{-1}}} {
		if id, e := g.Add(p); id != 0 || e != api.ErrNil {
			t.Errorf("Add: %d, %v", id, e)
		}
	}
	for _, n := range []int{math.MinInt, -1, 0, 1, math.MaxInt} {
		if p, e := g.Get(n); e != api.ErrNil || !alike(p, api.Patch{}) {
			t.Errorf("Get: %v, %v", p, e)
		}
		if len(g.Of(n)) != 0 || len(g.Ready(n)) != 0 || len(g.Needed(n)) != 0 || len(g.By(n)) != 0 || len(g.About(n)) != 0 || g.Settle(n) != 0 {
			t.Errorf("%d: it has something", n)
		}
		errno(t, "Write", g.Write(n), api.ErrNil)
	}
	errno(t, "Write of none", g.Write(), api.ErrNil)
	if len(g.Needed()) != 0 || len(g.Sectors()) != 0 || len(g.Written()) != 0 || len(g.All()) != 0 || g.SettleAll() != 0 || g.Copy() != nil {
		t.Error("it has something")
	}
}

// P1: many patches of one sector, each of which meets all others, are told, written and settled without delay.
func TestMany(t *testing.T) {
	g := graph.New()
	const n = 5000
	for range n {
		put(t, g, 7, 0, 3)
	}
	if len(g.Ready(7)) != n || len(g.Needed(n)) != n {
		t.Error("not all are ready, or needed by the last")
	}
	errno(t, "Write of all", g.Write(g.Ready(7)...), api.OK)
	if k := g.Settle(7); k != n {
		t.Errorf("%d settle, want %d", k, n)
	}
}
