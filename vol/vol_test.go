package vol_test

import (
	"fmt"
	"math"
	"testing"

	"scupper/api"
	"scupper/crc"
	"scupper/disk"
	"scupper/maps"
	"scupper/num"
	"scupper/nvram"
	"scupper/power"
	"scupper/seal"
	"scupper/super"
	"scupper/vol"
)

// The disk of these tests: two groups of a sector of inodes and six of data, 20 sectors in all.
// Group 0: head 2, maps 3, inodes 4, data 5 to 10. Group 1: head 11, maps 12, inodes 13, data 14 to 19. Inodes 1 to 3 are of group 0, 4 to 6 of group 1.
const sectors = 20

var shape = api.Geom{Groups: 2, Inodes: 1, Data: 6}

// strange is numbers of sectors that there are not.
var strange = []int{math.MinInt, -1, sectors, sectors + 1, api.MaxSectors - 1, api.MaxSectors, math.MaxInt}

// noKinds is kinds of which no sector is right, such as are one in their lowest byte among them.
var noKinds = []int{math.MinInt, -252, -250, -1, 0, 7, 8, 255, 256, 256 + api.KindMaps, 256 + api.KindInode, math.MaxInt}

func sealed(kind int, p api.Load) api.Block {
	b, _ := seal.Put(kind, 1, p)
	return b
}

// blank is a formatted disk's sectors, in whose maps all places are taken.
func blank() []api.Block {
	l := make([]api.Block, sectors)
	l[0], _ = super.Format(shape)
	l[1] = l[0]
	for group, at := range []int{2, 11} {
		h, _ := maps.Head(group)
		l[at] = sealed(api.KindHead, h)
		l[at+1] = sealed(api.KindMaps, api.Load{0: 63, 16: 7})
		l[at+2] = sealed(api.KindInode, api.Load{})
	}
	return l
}

// rig is a volume, and what it is made of.
type rig struct {
	t *testing.T
	s *power.Supply
	d *disk.Disk
	w *nvram.Words
	v *vol.Vol
}

// fresh is a volume of such a disk, with words that are right and say none.
func fresh(t *testing.T, size int) *rig { return of(t, size, blank()) }

func of(t *testing.T, size int, l []api.Block) *rig {
	t.Helper()
	r := &rig{t: t, s: power.New()}
	r.d, _ = disk.New(len(l), r.s)
	r.d.Load(l)
	r.w = nvram.New(r.s)
	r.w.Clear()
	r.again(size)
	return r
}

// again is another volume of the same disk and words.
func (r *rig) again(size int) {
	r.t.Helper()
	v, e := vol.New(r.d, r.w, size)
	if v == nil || e != api.OK {
		r.t.Fatalf("New: %v, %v", v, e)
	}
	r.v = v
}

// patch is the volume's next patch: of one byte.
func (r *rig) patch(at, off int, x byte, kind int, needs ...int) int {
	r.t.Helper()
	id, e := r.v.Patch(api.Patch{At: at, Off: off, Data: []byte{x}, Kind: kind, Needs: needs})
	if id == 0 || e != api.OK {
		r.t.Fatalf("Patch of %d at %d: %d, %v", at, off, id, e)
	}
	return id
}

// same holds two answers against each other (an empty list is as none).
func (r *rig) same(what string, got, want any) {
	r.t.Helper()
	if g, w := fmt.Sprint(got), fmt.Sprint(want); g != w {
		r.t.Errorf("%s: %s, want %s", what, g, w)
	}
}

func (r *rig) pending(patches, frees int) {
	r.t.Helper()
	p, f := r.v.Pending()
	r.same("pending", []int{p, f}, []int{patches, frees})
}

func (r *rig) says(groups uint32, right bool) {
	r.t.Helper()
	g, is := r.w.Says()
	r.same("the words", []any{g, is}, []any{groups, right})
}

// costs does what is to be done, and holds against it how many units of power that took.
func (r *rig) costs(units int, what func()) {
	r.t.Helper()
	was := r.s.Used()
	what()
	r.same("units", r.s.Used()-was, units)
}

// settles is a Settle that is OK, and takes so many units.
func (r *rig) settles(units int, ids ...int) {
	r.t.Helper()
	r.costs(units, func() { r.same("Settle", r.v.Settle(ids...), api.OK) })
}

func (r *rig) later(after, blocks []int, ino int) {
	r.t.Helper()
	r.same("Later", r.v.Later(vol.Free{After: after, Blocks: blocks, Ino: ino}), api.OK)
}

// load is the load of a sector that is right of that kind now.
func (r *rig) load(at, kind int) api.Load {
	r.t.Helper()
	p, e := r.v.Load(at, kind)
	r.same("Load", e, api.OK)
	return p
}

// part is the first bytes of such a load.
func (r *rig) part(at, kind, n int) []byte {
	r.t.Helper()
	p := r.load(at, kind)
	return p[:n]
}

// first is the first bytes of what a sector is now.
func (r *rig) first(at, n int) []byte {
	r.t.Helper()
	b, e := r.v.Now(at)
	r.same("Now", e, api.OK)
	return b[:n]
}

// stable is the first bytes of what is stable at a sector.
func (r *rig) stable(at, n int) []byte { return r.d.Image()[at][:n] }

// shows is the first bytes of what the disk shows at a sector.
func (r *rig) shows(at, n int) []byte {
	b, _ := r.d.Read(at)
	return b[:n]
}

// told is a patch of the graph without what it must not have: where it is, its bytes, and all else that is not nought.
func (r *rig) told(id int) string {
	p, e := r.v.Graph().Get(id)
	return fmt.Sprint(p.At, p.Off, p.Data, p.Kind, p.Needs, p.Owner, p.Child, p.Written, e)
}

// 17.1: the chapter's example, and other disks without a shape: too small, of a size that is not the shape's, of a shape that is stable and not shown.
func TestNoShape(t *testing.T) {
	w := nvram.New(nil)
	none := func(what string, d *disk.Disk) {
		t.Helper()
		if v, e := vol.New(d, w, 3); v != nil || e != api.ErrSuper {
			t.Errorf("New of %s: %v, %v, want none, %v", what, v, e, api.ErrSuper)
		}
	}
	for _, n := range []int{1, 2, 11, sectors, api.MaxSectors} {
		d, _ := disk.New(n, nil)
		none(fmt.Sprint("noughts: ", n), d)
	}
	for _, n := range []int{1, 2, sectors - 1, sectors + 1} {
		d, _ := disk.New(n, nil)
		for i := range min(n, 2) {
			d.Force(i, blank()[0])
		}
		none(fmt.Sprint("another size: ", n), d)
	}
	d, _ := disk.New(sectors, nil)
	d.Load(blank())
	d.Write(0, api.Block{})
	d.Write(1, api.Block{})
	none("a shape that is not shown", d)
}

// 17.1: the shape is that of what the sectors show, in one of both or in the other; New writes nothing and takes no power.
func TestShape(t *testing.T) {
	for keep := range 2 {
		l := blank()
		l[1-keep] = api.Block{1, 2, 3}
		r := of(t, 3, l)
		r.same("Geom", r.v.Geom(), shape)
	}
	s := power.New()
	d, _ := disk.New(sectors, s)
	d.Write(1, blank()[1])
	w := nvram.New(s)
	s.Limit(0)
	v, e := vol.New(d, w, 1)
	if e != api.OK || v.Geom() != shape {
		t.Fatalf("New of a shape that waits: %v", e)
	}
	if p, f := v.Pending(); p != 0 || f != 0 || s.Gone() || d.Writes() != 1 || d.Waits(1) != 1 {
		t.Errorf("a new volume: %d patches, %d frees, %d writes", p, f, d.Writes())
	}
	if _, right := w.Says(); right {
		t.Error("New turned the words")
	}
	for _, g := range []api.Geom{{Groups: 1, Inodes: 1, Data: 4}, {Groups: 8, Inodes: 8, Data: 128}} {
		b, _ := super.Format(g)
		d, _ := disk.New(2+g.Groups*(2+g.Inodes+g.Data), nil)
		d.Force(0, b)
		if v, e := vol.New(d, w, 64); e != api.OK || v.Geom() != g {
			t.Errorf("New of %v: %v", g, e)
		}
	}
}

// 17.1: no disk, no words, and sizes that the cache refuses; that comes ahead of the shape.
func TestNewOfNothing(t *testing.T) {
	bare, _ := disk.New(sectors, nil)
	d, _ := disk.New(sectors, nil)
	d.Load(blank())
	w := nvram.New(nil)
	refused := func(what string, d *disk.Disk, w *nvram.Words, size int) {
		t.Helper()
		if v, e := vol.New(d, w, size); v != nil || e != api.ErrArg {
			t.Errorf("New of %s: %v, %v, want none, %v", what, v, e, api.ErrArg)
		}
	}
	refused("no disk", nil, w, 3)
	refused("no words", d, nil, 3)
	refused("no words, no shape", bare, nil, 3)
	refused("nothing", nil, nil, 0)
	for _, size := range []int{math.MinInt, -1, 0, api.MaxCache + 1, math.MaxInt} {
		refused(fmt.Sprint("size ", size), d, w, size)
		refused(fmt.Sprint("no shape, size ", size), bare, w, size)
	}
	for _, size := range []int{1, api.MaxCache} {
		if v, e := vol.New(d, w, size); v == nil || e != api.OK {
			t.Errorf("New of size %d: %v", size, e)
		}
	}
}

// 17.1, 17.2: of a volume that is none; ErrNil comes ahead of all other errors.
func TestNoVolume(t *testing.T) {
	var v *vol.Vol
	for _, at := range append(strange, 0, 5) {
		if b, e := v.Now(at); b != (api.Block{}) || e != api.ErrNil {
			t.Errorf("Now(%d): %v", at, e)
		}
		if p, e := v.Load(at, at); p != (api.Load{}) || e != api.ErrNil {
			t.Errorf("Load(%d): %v", at, e)
		}
		if id, e := v.Patch(api.Patch{At: at, Data: []byte{1}}); id != 0 || e != api.ErrNil {
			t.Errorf("Patch of %d: %d, %v", at, id, e)
		}
	}
	for what, e := range map[string]api.Errno{
		"Later":      v.Later(vol.Free{}),
		"Mark":       v.Mark(),
		"Mark of 5":  v.Mark(5),
		"Settle":     v.Settle(),
		"Settle(1)":  v.Settle(1),
		"Sync":       v.Sync(),
		"Sync(2, 0)": v.Sync(2, 0),
	} {
		if e != api.ErrNil {
			t.Errorf("%s: %v, want %v", what, e, api.ErrNil)
		}
	}
	if p, f := v.Pending(); v.Geom() != (api.Geom{}) || p != 0 || f != 0 || v.Graph() != nil {
		t.Error("of no volume something is told")
	}
}

// 17.1: sectors that there are not, of Now and of Load, whatever the kind.
func TestNoSector(t *testing.T) {
	r := fresh(t, 1)
	r.patch(5, 0, 1, 0)
	for _, at := range strange {
		if b, e := r.v.Now(at); b != (api.Block{}) || e != api.ErrArg {
			t.Errorf("Now(%d): %v", at, e)
		}
		for _, kind := range append(noKinds, api.KindMaps) {
			if p, e := r.v.Load(at, kind); p != (api.Load{}) || e != api.ErrArg {
				t.Errorf("Load(%d, %d): %v", at, kind, e)
			}
		}
	}
}

// 17.1: what a sector is now: as the disk shows it, without patches, also if that waits; and with patches of all sorts over it.
func TestNow(t *testing.T) {
	r := fresh(t, 2)
	r.d.Write(9, api.Block{4, 5})
	for i := range sectors {
		want, _ := r.d.Read(i)
		if b, e := r.v.Now(i); b != want || e != api.OK {
			t.Errorf("Now(%d): %v, %v, want %v", i, b, e, want)
		}
	}
	r.patch(9, 1, 7, 0)
	r.patch(9, 2, 8, 0)
	r.patch(9, 1, 9, 0)
	r.same("raw ones", r.first(9, 4), []byte{4, 9, 8, 0})
	r.patch(4, 0, 1, api.KindInode)
	r.patch(4, 53, 2, api.KindInode)
	want, _ := seal.Put(api.KindInode, 2, api.Load{0: 1, 53: 2})
	if b, _ := r.v.Now(4); b != want {
		t.Errorf("sealed ones: %v, want %v", b, want)
	}
	r.patch(14, 3, 6, api.KindDir)
	want, _ = seal.Put(api.KindDir, 1, api.Load{3: 6})
	if b, _ := r.v.Now(14); b != want {
		t.Errorf("the first of a kind: %v, want %v", b, want)
	}
	r.patch(14, 4, 7, api.KindPtrs)
	want, _ = seal.Put(api.KindPtrs, 1, api.Load{4: 7})
	if b, _ := r.v.Now(14); b != want {
		t.Errorf("another kind behind it: %v, want %v", b, want)
	}
	r.same("the disk", fmt.Sprint(r.shows(9, 2), r.shows(4, 1), r.shows(14, 1)), "[4 5] [0] [0]")
	r.same("writes", r.d.Writes(), 1)
}

// 17.1: a sector's load, of the kind of which it is right now, and of all others; patches make it right, or not.
func TestLoad(t *testing.T) {
	r := fresh(t, 3)
	kinds := map[int]int{0: api.KindSuper, 1: api.KindSuper, 2: api.KindHead, 3: api.KindMaps, 4: api.KindInode, 12: api.KindMaps}
	for at := range sectors {
		for kind := api.KindSuper; kind <= api.KindDir; kind++ {
			if kinds[at] == kind || at == 11 && kind == api.KindHead || at == 13 && kind == api.KindInode {
				want, _, _ := seal.Get(kind, blank()[at])
				r.same("a load", r.load(at, kind), want)
				continue
			}
			if p, e := r.v.Load(at, kind); p != (api.Load{}) || e != api.ErrSeal {
				t.Errorf("Load(%d, %d): %v, want %v", at, kind, e, api.ErrSeal)
			}
		}
		r.noLoads(at)
	}
	r.patch(5, 1, 8, api.KindDir)
	r.same("made right", r.load(5, api.KindDir), api.Load{1: 8})
	r.patch(3, 60, 1, 0)
	if p, e := r.v.Load(3, api.KindMaps); p != (api.Load{}) || e != api.ErrSeal {
		t.Errorf("made wrong: %v, %v", p, e)
	}
	r.noLoads(5)
	r.noLoads(3)
}

// noLoads asks for loads of a sector that there is, as kinds of which none is right.
func (r *rig) noLoads(at int) {
	r.t.Helper()
	for _, kind := range noKinds {
		if p, e := r.v.Load(at, kind); p != (api.Load{}) || e != api.ErrSeal {
			r.t.Errorf("Load(%d, %d): %v, %v, want noughts and %v", at, kind, p, e, api.ErrSeal)
		}
	}
}

// 17.1: bytes that are as if sealed, of a kind that is none, are right of none: on the disk, by patches, and when these are stable.
func TestLoadOfNoKind(t *testing.T) {
	l := blank()
	for i, kind := range []byte{0, 7, 8, 255} {
		l[5+i] = sealedAs(kind)
	}
	r := of(t, 3, l)
	r.same("as if sealed", seal.Kind(sealedAs(api.KindDir)), api.KindDir)
	b := sealedAs(7)
	if _, e := r.v.Patch(api.Patch{At: 9, Data: b[:]}); e != api.OK {
		t.Fatalf("Patch: %v", e)
	}
	for at := 5; at < 10; at++ {
		r.noLoads(at)
	}
	r.same("Sync", r.v.Sync(), api.OK)
	r.noLoads(9)
}

// sealedAs is a load of ones with a seal of that kind, be it one or none.
func sealedAs(kind byte) api.Block {
	var b api.Block
	for i := range api.Payload {
		b[i] = 1
	}
	b[54], b[55], b[56] = kind, 255-kind, 1
	n := num.Put32(crc.Of(b[:60]))
	copy(b[60:], n[:])
	return b
}

// 17.1: a load as a kind that is none changes nothing of what is pending, of the words, of the disk or of its power; and it is told when the power is gone, too.
func TestLoadOfNoKindRefused(t *testing.T) {
	r := fresh(t, 3)
	r.patch(5, 0, 1, 0)
	r.later([]int{1}, []int{6}, 0)
	r.s.Limit(0)
	was := fmt.Sprint(r.v.Graph().All(), r.d.Image(), r.d.Writes(), r.s.Used())
	for at := range sectors {
		r.noLoads(at)
	}
	r.same("all", fmt.Sprint(r.v.Graph().All(), r.d.Image(), r.d.Writes(), r.s.Used()), was)
	r.pending(1, 1)
	r.says(1, true)
}

// 17.1: patches get numbers from 1 on, are in the graph as they were handed in, and mark their groups; nothing is written.
func TestPatch(t *testing.T) {
	r := fresh(t, 3)
	p := api.Patch{Id: 77, At: 5, Off: 60, Data: []byte{1, 2, 3, 4}, Owner: 8, Child: -9, Written: true}
	q := api.Patch{At: 4, Off: 52, Data: []byte{5, 6}, Kind: api.KindInode, Needs: []int{1}}
	r.costs(3, func() {
		id, e := r.v.Patch(p)
		r.same("the first", []any{id, e}, []any{1, api.OK})
		r.says(1, true)
		id, e = r.v.Patch(q)
		r.same("the second", []any{id, e}, []any{2, api.OK})
	})
	r.same("patch 1", r.told(1), "5 60 [1 2 3 4] 0 [] 8 -9 false "+api.OK.Error())
	r.same("patch 2", r.told(2), "4 52 [5 6] 4 [1] 0 0 false "+api.OK.Error())
	r.says(1, true)
	for id, at := range []int{2, 3, 10, 11, 12, 19} {
		r.same("a number", r.patch(at, 0, 1, 0), id+3)
	}
	r.says(3, true)
	r.pending(8, 0)
	r.same("writes", r.d.Writes(), 0)
}

// 17.1: patches that are refused, and leave all as it was, the next number among it.
func TestPatchRefused(t *testing.T) {
	r := fresh(t, 3)
	r.patch(5, 0, 1, 0)
	one := []byte{1}
	wrong := []api.Patch{
		{At: 0, Data: one}, {At: 1, Data: one}, {At: 0, Data: one, Kind: api.KindSuper},
		{At: 14}, {At: 14, Data: []byte{}}, {At: 14, Data: one, Off: -1}, {At: 14, Data: one, Off: 64},
		{At: 14, Data: make([]byte, 65)}, {At: 14, Data: one, Off: math.MaxInt}, {At: 14, Data: one, Off: math.MinInt},
		{At: 14, Data: one, Kind: 4, Off: 54}, {At: 14, Data: make([]byte, 55), Kind: 4},
		{At: 14, Data: one, Kind: -1}, {At: 14, Data: one, Kind: 7},
		{At: 14, Data: one, Needs: []int{0}}, {At: 14, Data: one, Needs: []int{2}}, {At: 14, Data: one, Needs: []int{1, -1}},
	}
	for _, at := range strange {
		wrong = append(wrong, api.Patch{At: at, Data: one})
	}
	r.costs(0, func() {
		for _, p := range wrong {
			if id, e := r.v.Patch(p); id != 0 || e != api.ErrArg {
				t.Errorf("Patch of %v: %d, %v, want 0, %v", p, id, e, api.ErrArg)
			}
		}
	})
	r.pending(1, 0)
	r.says(1, true)
	r.same("the next number", r.patch(14, 0, 1, 0, 1), 2)
}

// 17.1: the power goes while a group is marked: the patch is in the graph all the same, and its number is not told.
func TestPatchDown(t *testing.T) {
	for units := range 3 {
		r := fresh(t, 3)
		r.s.Limit(units)
		id, e := r.v.Patch(api.Patch{At: 14, Data: []byte{9}})
		r.same("Patch", []any{id, e}, []any{0, api.ErrDown})
		r.pending(1, 0)
		r.same("the patch", r.told(1), "14 0 [9] 0 [] 0 0 false "+api.OK.Error())
		r.same("now", r.first(14, 1), []byte{9})
		if units == 0 {
			r.says(0, true)
		} else {
			r.says(nvram.All(), false)
		}
		r.s.Restore()
		r.same("the next number", r.patch(14, 1, 8, 0, 1), 2)
		r.same("Sync", r.v.Sync(), api.OK)
		r.same("stable", r.stable(14, 2), []byte{9, 8})
		r.says(0, true)
	}
}

// 17.1: Mark goes over sectors of each sort; those of the shape, and such as there are not, have no group.
func TestMark(t *testing.T) {
	r := fresh(t, 3)
	r.costs(0, func() {
		r.same("Mark of none", r.v.Mark(), api.OK)
		r.same("Mark of strange ones", r.v.Mark(append(strange, 0, 1)...), api.OK)
	})
	r.says(0, true)
	for at := 2; at < sectors; at++ {
		r := fresh(t, 3)
		r.costs(3, func() { r.same("Mark", r.v.Mark(-1, at, 0, at, sectors), api.OK) })
		r.says(1<<((at-2)/9), true)
		r.pending(0, 0)
	}
	r.costs(6, func() { r.same("Mark of both", r.v.Mark(19, 1, 2, 4, 13), api.OK) })
	r.says(3, true)
	r.w.Poke(2, 0)
	r.costs(0, func() { r.same("Mark of words that are not right", r.v.Mark(2, 19), api.OK) })
	r.says(nvram.All(), false)
}

// 17.1: Mark goes one by one, and stops where the power is gone.
func TestMarkDown(t *testing.T) {
	for units, want := range []uint32{0, 255, 255, 2, 255, 255, 3} {
		r := fresh(t, 3)
		r.s.Limit(units)
		e := r.v.Mark(0, 19, 18, 5)
		r.same("Mark", e == api.OK, units == 6)
		r.same("what it tells", e == api.ErrDown, units < 6)
		r.says(want, want != 255)
	}
}

// 17.2: what Graph tells is a copy, and so is what a copy tells.
func TestGraphIsACopy(t *testing.T) {
	r := fresh(t, 3)
	r.patch(5, 0, 1, 0)
	r.patch(5, 1, 2, 0)
	g := r.v.Graph()
	g.Write(1, 2)
	g.SettleAll()
	g.Add(api.Patch{At: 6, Data: []byte{3}})
	r.pending(2, 0)
	r.same("patch 1", r.told(1), "5 0 [1] 0 [] 0 0 false "+api.OK.Error())
	p, _ := r.v.Graph().Get(2)
	p.Data[0] = 9
	r.same("now", r.first(5, 2), []byte{1, 2})
	r.same("the next number", r.patch(5, 2, 4, 0), 3)
	h := r.v.Graph()
	r.same("Sync", r.v.Sync(), api.OK)
	r.same("the copy", h.All(), []int{1, 2, 3})
	r.same("the graph", r.v.Graph().All(), []int{})
}

// 17.1, 17.2: lists that are handed in are not changed, and not kept: what is done to them later plays no part.
func TestHandedIn(t *testing.T) {
	r := fresh(t, 3)
	r.patch(5, 0, 1, 0)
	p := api.Patch{At: 4, Data: []byte{1, 2}, Kind: api.KindInode, Needs: []int{1}}
	r.v.Patch(p)
	p.Data[0], p.Needs[0] = 9, 2
	r.same("patch 2", r.told(2), "4 0 [1 2] 4 [1] 0 0 false "+api.OK.Error())
	f := vol.Free{After: []int{2}, Blocks: []int{5, 0, 14}, Ino: 2}
	r.v.Later(f)
	r.same("the free", f, vol.Free{After: []int{2}, Blocks: []int{5, 0, 14}, Ino: 2})
	f.After[0], f.Blocks[0], f.Blocks[2] = 1, 6, 15
	ids, keep, marks := []int{2, 1, 2, 0}, []int{19, 2, 0}, []int{19, 19, 1}
	r.settles(1, 1)
	r.pending(1, 1)
	r.v.Mark(marks...)
	r.v.Settle(ids...)
	r.pending(3, 0)
	r.same("maps", fmt.Sprint(r.load(3, api.KindMaps)[0], r.load(12, api.KindMaps)[0], r.load(3, api.KindMaps)[16]), "62 62 5")
	r.v.Sync(keep...)
	r.same("what was handed in", fmt.Sprint(ids, keep, marks), "[2 1 2 0] [19 2 0] [19 19 1]")
	b, _ := r.v.Now(3)
	b[0] = 77
	r.same("maps", r.load(3, api.KindMaps)[0], 62)
}

// bigRig is a volume of a disk of the greatest shape, in whose last maps all places are taken, and two bits beyond them are set.
func bigRig(t *testing.T) *rig {
	t.Helper()
	g := api.Geom{Groups: api.MaxGroups, Inodes: api.MaxInodes, Data: api.MaxData}
	l := make([]api.Block, 2+g.Groups*138)
	l[0], _ = super.Format(g)
	p := api.Load{19: 1, 53: 1}
	for i := range 19 {
		p[i] = 255
	}
	l[2+7*138+1] = sealed(api.KindMaps, p)
	return of(t, 3, l)
}
