package vol_test

import (
	"fmt"
	"testing"

	"scupper/api"
	"scupper/nvram"
	"scupper/seal"
	"scupper/vol"
)

// 17.2: a batch of one sector is forced, by one unit of power: it is stable at once, with just the patches over it that are ready, one turn on.
func TestForced(t *testing.T) {
	r := fresh(t, 3)
	a := r.patch(5, 0, 9, 0)
	b := r.patch(4, 0, 1, api.KindInode, a)
	c := r.patch(4, 1, 2, api.KindInode)
	r.settles(1, c)
	want, _ := seal.Put(api.KindInode, 2, api.Load{1: 2})
	r.same("stable: the one that is ready", r.d.Image()[4], want)
	r.same("waiting", r.d.Waits(4), 0)
	r.same("now: both", r.load(4, api.KindInode), api.Load{1, 2})
	r.same("left", r.v.Graph().All(), []int{a, b})
	r.same("the other sector", r.shows(5, 1), []byte{0})
	r.settles(2, b)
	want, _ = seal.Put(api.KindInode, 3, api.Load{1, 2})
	r.same("stable", fmt.Sprint(r.d.Image()[4] == want, r.stable(5, 1)), "true [9]")
	r.pending(0, 0)
	r.same("writes", r.d.Writes(), 3)
	r.says(1, true)
}

// 17.2: a batch of several sectors waits for its flush: a unit for each sector, rising, and one for the flush.
func TestFlushed(t *testing.T) {
	r := fresh(t, 1)
	for _, at := range []int{19, 5, 14, 5} {
		r.patch(at, 3, byte(at), 0)
	}
	r.s.Limit(3)
	r.same("Settle", r.v.Settle(1, 2, 3, 4), api.ErrDown)
	for _, at := range []int{5, 14, 19} {
		r.same("it waits", fmt.Sprint(r.d.Waits(at), r.stable(at, 4), r.shows(at, 4)), fmt.Sprint(1, []byte{0, 0, 0, 0}, []byte{0, 0, 0, byte(at)}))
	}
	r.same("written", r.v.Graph().Written(), []int{1, 2, 3, 4})
	r.pending(4, 0)
	r.s.Restore()
	r.settles(1, 3)
	r.pending(0, 0)
	for _, at := range []int{5, 14, 19} {
		r.same("it is stable", fmt.Sprint(r.d.Waits(at), r.stable(at, 4)), fmt.Sprint(0, []byte{0, 0, 0, byte(at)}))
	}
	r.same("writes", r.d.Writes(), 3)
}

// 17.1, 17.2: the power goes at each place of a batch: what was written ahead of it is written in the graph, the others are not, and what each sector is now stays.
func TestBatchDown(t *testing.T) {
	for units, written := range [][]int{{}, {3}, {2, 3}, {1, 2, 3}} {
		r := fresh(t, 1)
		for _, at := range []int{14, 6, 5} {
			r.patch(at, 0, byte(at), 0)
		}
		r.later([]int{1}, []int{7}, 0)
		r.s.Limit(units)
		r.same("Settle", r.v.Settle(1, 2, 3), api.ErrDown)
		r.same("written", r.v.Graph().Written(), written)
		r.pending(3, 1)
		r.s.Restore()
		for _, at := range []int{5, 6, 14} {
			r.same("now", r.first(at, 1), []byte{byte(at)})
			r.same("stable", r.stable(at, 1), []byte{0})
		}
		r.same("Settle", r.v.Settle(1, 2, 3), api.OK)
		for _, at := range []int{5, 6, 14} {
			r.same("stable", r.stable(at, 1), []byte{byte(at)})
		}
		r.pending(1, 0)
	}
}

// 17.1, 17.2: the power goes in a force: nothing is written, and all is as it was.
func TestForceDown(t *testing.T) {
	r := fresh(t, 3)
	r.patch(4, 0, 7, api.KindInode)
	r.later([]int{1}, []int{5}, 1)
	was, _ := r.v.Now(4)
	r.s.Limit(0)
	r.same("Settle", r.v.Settle(1), api.ErrDown)
	now, e := r.v.Now(4)
	r.same("now", fmt.Sprint(now == was, e), fmt.Sprint(true, api.OK))
	r.same("the disk", r.d.Image()[4], blank()[4])
	r.same("written", r.v.Graph().Written(), []int{})
	r.pending(1, 1)
}

// 17.2: patches of several sectors and kinds that need one another: one by one, and all at once; each costs what its batches do.
func TestChain(t *testing.T) {
	build := func() *rig {
		r := fresh(t, 2)
		r.patch(3, 0, 0x7f, api.KindMaps)      // 1
		r.patch(5, 0, 1, api.KindDir)          // 2
		r.patch(4, 0, 2, api.KindInode, 1, 2)  // 3
		r.patch(14, 9, 3, 0)                   // 4
		r.patch(13, 5, 4, api.KindInode, 4, 3) // 5
		r.patch(4, 5, 5, api.KindInode)        // 6
		r.patch(4, 0, 6, api.KindInode, 5)     // 7: it meets 3
		r.patch(5, 3, 7, api.KindDir, 7)       // 8
		r.same("Sectors", r.v.Graph().Sectors(), []int{3, 4, 5, 13, 14})
		return r
	}
	loads := func(r *rig) string {
		return fmt.Sprint(r.part(3, api.KindMaps, 1), r.part(4, api.KindInode, 6), r.part(5, api.KindDir, 4), r.part(13, api.KindInode, 6), r.first(14, 10)[9])
	}
	one := build()
	was := loads(one)
	one.same("now", was, "[127] [6 0 0 0 0 5] [1 0 0 7] [0 0 0 0 0 4] 3")
	for id, units := range []int{1, 1, 1, 1, 1, 0, 1, 1} {
		one.settles(units, id+1)
		one.same("now", loads(one), was)
	}
	one.pending(0, 0)
	all := build()
	// Sectors 3, 5 and 14 with a flush, then 4, 13, 4 and 5, forced.
	all.settles(8, 8, 4)
	all.pending(0, 0)
	all.same("now", loads(all), was)
	for i, b := range one.d.Image() {
		if !seal.Same(b, all.d.Image()[i]) {
			t.Errorf("sector %d: %v, and all at once %v", i, b, all.d.Image()[i])
		}
	}
}

// 17.2: what is needed alone settles, with what is ready of its sectors; of no patches, and of such as there are not, nothing does.
func TestSettleSome(t *testing.T) {
	r := fresh(t, 3)
	for at := 5; at < 9; at++ {
		r.patch(at, 0, 1, 0)
	}
	r.patch(6, 1, 2, 0, 1)
	r.later(nil, []int{9}, 0)
	r.settles(0)
	r.settles(0, -1, 0, 6, 99)
	r.pending(5, 1)
	r.settles(2, 5, 99)
	r.same("left", r.v.Graph().All(), []int{3, 4, 6}) // 6 is the free's
	r.same("stable", fmt.Sprint(r.stable(5, 2), r.stable(6, 2), r.stable(7, 2)), "[1 0] [1 2] [0 0]")
}

// 17.1, 17.2: what is written, and not stable, is part of what the cache has, and not laid once more; other patches come over it.
func TestNowOverWritten(t *testing.T) {
	r := fresh(t, 3)
	r.patch(4, 0, 1, api.KindInode)
	r.patch(13, 0, 2, api.KindInode)
	r.s.Limit(2)
	r.same("Settle", r.v.Settle(1, 2), api.ErrDown)
	r.s.Restore()
	want, _ := seal.Put(api.KindInode, 2, api.Load{1})
	b, _ := r.v.Now(4)
	r.same("now", b, want)
	r.patch(4, 1, 3, api.KindInode)
	want, _ = seal.Put(api.KindInode, 3, api.Load{1, 3})
	b, _ = r.v.Now(4)
	r.same("now", b, want)
	// What is written is of another sector, too: so a flush ends the batch, and all of it settles.
	r.settles(2, 3)
	r.pending(0, 0)
	r.same("stable", fmt.Sprint(r.d.Image()[4] == want, r.stable(13, 1)), "true [2]")
}

// 17.2: what is written of the batch's own sector alone does not keep it from being forced.
func TestForcedOverWritten(t *testing.T) {
	r := fresh(t, 3)
	r.patch(5, 0, 1, 0)
	r.patch(6, 0, 2, 0)
	r.s.Limit(1)
	r.same("Settle", r.v.Settle(1, 2), api.ErrDown)
	r.s.Restore()
	r.patch(5, 1, 3, 0)
	r.settles(1, 3)
	r.same("stable", fmt.Sprint(r.stable(5, 2), r.d.Waits(5)), "[1 3] 0")
	r.same("left", r.v.Graph().All(), []int{2})
}

// 17.1: a sector that the disk refused is changed in the cache; when it must go from there, and can't, that is told, and nothing is done.
func TestNowDown(t *testing.T) {
	r := fresh(t, 1)
	r.patch(5, 0, 1, 0)
	r.patch(6, 0, 2, 0)
	r.s.Limit(0)
	r.same("Settle", r.v.Settle(1, 2), api.ErrDown)
	b, e := r.v.Now(6)
	r.same("Now", []any{b, e}, []any{api.Block{}, api.ErrDown})
	p, e := r.v.Load(4, api.KindInode)
	r.same("Load", []any{p, e}, []any{api.Load{}, api.ErrDown})
	_, e = r.v.Now(sectors)
	r.same("Now of no sector", e, api.ErrArg)
	r.same("now", r.first(5, 1), []byte{1})
	r.s.Restore()
	r.same("now", r.first(6, 1), []byte{2})
	r.same("Sync", r.v.Sync(), api.OK)
	r.same("stable", fmt.Sprint(r.stable(5, 1), r.stable(6, 1)), "[1] [2]")
}

// 17.2: of an empty volume Sync does nothing, if the words are right, and say none.
func TestSyncNothing(t *testing.T) {
	r := fresh(t, 3)
	r.costs(0, func() { r.same("Sync", r.v.Sync(), api.OK) })
	r.same("the disk", fmt.Sprint(r.d.Image()) == fmt.Sprint(blank()), true)
	r.s.Limit(0)
	r.same("Sync without power", r.v.Sync(0, 1, -1, sectors), api.OK)
	r.same("Settle without power", r.v.Settle(1, 2, 3), api.OK)
	r.same("gone", r.s.Gone(), false)
}

// 17.2: the words turn to the groups that are to be kept, unless they are right and say just these.
func TestSyncWords(t *testing.T) {
	for _, c := range []struct {
		keep []int
		want uint32
	}{
		{nil, 0}, {[]int{0, 1}, 0}, {strange, 0}, {[]int{2}, 1}, {[]int{10}, 1}, {[]int{11}, 2}, {[]int{19, 19}, 2},
		{[]int{3, 12}, 3}, {append([]int{1, 13, 0, 14}, strange...), 2}, {[]int{4, 5, 6, 13}, 3},
	} {
		for said := range uint32(8) {
			r := fresh(t, 3)
			r.w.Keep(said)
			units := 3
			if said == c.want {
				units = 0
			}
			r.costs(units, func() { r.same("Sync", r.v.Sync(c.keep...), api.OK) })
			r.says(c.want, true)
			r.costs(0, func() { r.same("Sync again", r.v.Sync(c.keep...), api.OK) })
		}
		r := fresh(t, 3)
		r.w.Keep(c.want)
		turn, _ := r.w.Get(0)
		r.w.Poke(0, turn+1)
		r.says(nvram.All(), false)
		r.costs(3, func() { r.same("Sync of words that are not right", r.v.Sync(c.keep...), api.OK) })
		r.says(c.want, true)
	}
}

// 17.1, 17.2: words that were never turned say all groups: Sync turns them also where all are kept that there are.
func TestSyncNewWords(t *testing.T) {
	r := fresh(t, 3)
	r.w = nvram.New(r.s)
	r.again(3)
	r.costs(0, func() { r.patch(5, 0, 1, 0) })
	r.says(nvram.All(), false)
	r.costs(4, func() { r.same("Sync", r.v.Sync(2, 11), api.OK) })
	r.says(3, true)
}

// 17.2: words that are not right say all groups, and are turned also where just all are to be kept.
func TestSyncAllGroups(t *testing.T) {
	r := bigRig(t)
	var keep []int
	for group := range api.MaxGroups {
		keep = append(keep, 2+138*(7-group)+group)
	}
	r.w.Poke(2, 0)
	r.says(nvram.All(), false)
	r.costs(3, func() { r.same("Sync", r.v.Sync(keep...), api.OK) })
	r.says(nvram.All(), true)
	r.costs(0, func() { r.same("Sync", r.v.Sync(keep...), api.OK) })
	r.costs(3, func() { r.same("Sync", r.v.Sync(keep[1:]...), api.OK) })
	r.says(127, true)
}

// 17.2: the power goes at each place of a Sync: in its batches, in the frees' own, and at each word.
func TestSyncDown(t *testing.T) {
	build := func() *rig {
		r := fresh(t, 2)
		r.patch(5, 0, 1, 0)
		r.patch(4, 0, 2, api.KindInode, 1)
		r.later([]int{2}, []int{6, 14}, 2)
		return r
	}
	r := build()
	// Two forces; two writes of maps, and a flush; three words.
	r.costs(8, func() { r.same("Sync", r.v.Sync(19), api.OK) })
	type state struct{ patches, frees, written int }
	for units, want := range []state{{2, 1, 0}, {1, 1, 0}, {3, 0, 0}, {3, 0, 2}, {3, 0, 3}, {0, 0, 0}, {0, 0, 0}, {0, 0, 0}} {
		r := build()
		r.s.Limit(units)
		r.same("Sync", r.v.Sync(19), api.ErrDown)
		p, f := r.v.Pending()
		r.same(fmt.Sprint("behind ", units, " units"), state{p, f, len(r.v.Graph().Written())}, want)
		if units < 6 {
			r.says(3, true)
		} else {
			r.says(nvram.All(), false)
		}
		r.s.Restore()
		r.same("Sync", r.v.Sync(19), api.OK)
		r.pending(0, 0)
		r.says(2, true)
		r.same("maps", fmt.Sprint(r.stable(3, 17), r.stable(12, 17)), fmt.Sprint([]byte{0: 61, 16: 5}, []byte{0: 62, 16: 7}))
	}
}

// 17.2: whatever the power's going leaves of a batch, what a patch needs is stable ahead of it.
func TestNeverAhead(t *testing.T) {
	for units := range 8 {
		for keep := range 16 {
			r := fresh(t, 2)
			r.patch(14, 0, 1, 0)
			r.patch(6, 0, 2, 0)
			r.patch(5, 0, 3, 0, 1)
			r.patch(14, 1, 4, 0, 2)
			r.patch(6, 1, 5, 0, 3, 4)
			r.s.Limit(units)
			r.v.Sync()
			l := make([]int, sectors)
			l[5], l[6], l[14] = keep&1, keep>>1&1, keep>>2
			r.d.Crash(l)
			a, b, c := r.stable(5, 1), r.stable(6, 2), r.stable(14, 2)
			ahead := a[0] != 0 && c[0] == 0 || c[1] != 0 && b[0] == 0 || b[1] != 0 && (a[0] == 0 || c[1] == 0)
			if ahead {
				t.Errorf("%d units, %d: %v, %v, %v", units, keep, a, b, c)
			}
		}
	}
}

// 17.1, 17.2: another volume of the same disk finds what a Sync left, and what no Sync did is not there.
func TestAnother(t *testing.T) {
	r := fresh(t, 3)
	r.patch(5, 0, 1, 0)
	r.same("Sync", r.v.Sync(), api.OK)
	r.patch(5, 0, 2, 0)
	r.later(nil, []int{5}, 0)
	r.again(3)
	r.pending(0, 0)
	r.same("now", r.first(5, 1), []byte{1})
	r.same("the first number", r.patch(5, 0, 3, 0), 1)
	if v, e := vol.New(r.d, r.w, 0); v != nil || e != api.ErrArg {
		t.Errorf("New of size 0: %v", e)
	}
}
