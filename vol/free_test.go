package vol_test

import (
	"fmt"
	"math"
	"testing"

	"scupper/api"
	"scupper/nvram"
	"scupper/vol"
)

// taken is the bytes of group 0's and of group 1's maps now: of data, and of inodes.
func (r *rig) taken() string {
	r.t.Helper()
	a, b := r.load(3, api.KindMaps), r.load(12, api.KindMaps)
	return fmt.Sprint(a[0], a[16], b[0], b[16])
}

// 17.1: a free marks the groups of its sectors of data, and of its inode, and is not looked at yet, whether it comes behind patches or behind none.
func TestLater(t *testing.T) {
	for _, c := range []struct {
		f     vol.Free
		want  uint32
		units int
	}{
		{vol.Free{}, 0, 0},
		{vol.Free{Blocks: []int{5}}, 1, 3},
		{vol.Free{Blocks: []int{10, 5, 5}}, 1, 3},
		{vol.Free{Blocks: []int{19}}, 2, 3},
		{vol.Free{Blocks: []int{14, 5}}, 3, 6},
		{vol.Free{Ino: 1}, 1, 3},
		{vol.Free{Ino: 6}, 2, 3},
		{vol.Free{Blocks: []int{7}, Ino: 4}, 3, 6},
		{vol.Free{Blocks: []int{0, 1, 2, 3, 4, 11, 12, 13}}, 0, 0},
		{vol.Free{Blocks: strange, Ino: 7}, 0, 0},
		{vol.Free{Ino: -1}, 0, 0},
		{vol.Free{Ino: math.MinInt}, 0, 0},
		{vol.Free{Ino: math.MaxInt}, 0, 0},
	} {
		for _, after := range [][]int{nil, {1}, {-1, 0, 99}} {
			r := fresh(t, 3)
			c.f.After = after
			r.costs(c.units, func() { r.same("Later", r.v.Later(c.f), api.OK) })
			r.says(c.want, true)
			r.pending(0, 1)
			r.same("maps", r.taken(), "63 7 63 7")
		}
	}
}

// 17.1: the power goes while groups are marked, one by one: it is a free all the same, and is done when the power is back.
func TestLaterDown(t *testing.T) {
	for units, want := range []uint32{0, 255, 255, 2, 255, 255} {
		r := fresh(t, 3)
		r.s.Limit(units)
		f := vol.Free{Blocks: []int{3, 15, 5}, Ino: 4}
		r.same("Later", r.v.Later(f), api.ErrDown)
		r.pending(0, 1)
		r.says(want, want != 255)
		r.s.Restore()
		r.same("Sync", r.v.Sync(), api.OK)
		r.pending(0, 0)
		r.same("maps", r.taken(), "62 7 61 6")
		r.says(0, true)
	}
}

// 17.2: a free is done when something settles, and none of its patches is in the graph: each place by a patch of just its byte, in order, that needs nothing.
func TestFreeBehindPatches(t *testing.T) {
	r := fresh(t, 3)
	a := r.patch(5, 0, 1, 0)
	b := r.patch(6, 0, 2, 0)
	c := r.patch(14, 0, 3, 0)
	r.later([]int{b, a}, []int{7, 14, 9}, 5)
	r.settles(1, a)
	r.pending(2, 1)
	r.same("maps", r.taken(), "63 7 63 7")
	r.settles(1, b)
	r.pending(5, 0)
	r.same("maps", r.taken(), "43 7 62 5")
	ok := api.OK.Error()
	r.same("patch 4", r.told(4), "3 0 [59] 3 [] 0 0 false "+ok)
	r.same("patch 5", r.told(5), "12 0 [62] 3 [] 0 0 false "+ok)
	r.same("patch 6", r.told(6), "3 0 [43] 3 [] 0 0 false "+ok)
	r.same("patch 7", r.told(7), "12 16 [5] 3 [] 0 0 false "+ok)
	r.same("the disk's maps", r.d.Image()[3], blank()[3])
	// Settling what a free made does not settle the rest, nor does a free come back.
	r.settles(3, 6, 7)
	r.same("left", r.v.Graph().All(), []int{c})
	r.same("stable", fmt.Sprint(r.stable(3, 17), r.stable(12, 17)), fmt.Sprint([]byte{0: 43, 16: 7}, []byte{0: 62, 16: 5}))
	r.settles(1, c)
	r.pending(0, 0)
}

// 17.2: a free behind none, or behind patches that are stable, is looked at when something settles, whatever that is, and not ahead.
func TestFreeBehindNone(t *testing.T) {
	for _, after := range [][]int{nil, {}, {1}, {1, 1}, {0, -1, 99}} {
		r := fresh(t, 3)
		r.patch(5, 0, 1, 0)
		r.settles(1, 1)
		r.later(after, []int{5}, 0)
		r.settles(0, 1)
		r.settles(0)
		r.pending(0, 1)
		r.patch(19, 0, 1, 0)
		r.settles(1, 2)
		r.pending(1, 0)
		r.same("maps", r.taken(), "62 7 63 7")
	}
}

// 17.2: a patch that is written, and not stable, is in the graph still: the free behind it waits.
func TestFreeBehindWritten(t *testing.T) {
	r := fresh(t, 3)
	r.patch(5, 0, 1, 0)
	r.patch(6, 0, 1, 0)
	r.later([]int{1}, []int{5}, 0)
	r.s.Limit(2)
	r.same("Settle", r.v.Settle(1, 2), api.ErrDown)
	r.same("written", r.v.Graph().Written(), []int{1, 2})
	r.pending(2, 1)
	r.s.Restore()
	r.settles(1, 2)
	r.pending(1, 0)
	r.same("maps", r.taken(), "62 7 63 7")
}

// 17.2: a free is looked at behind each batch, not behind all of them alone; what it makes comes behind what is in the graph then.
func TestFreeBehindEachBatch(t *testing.T) {
	r := fresh(t, 3)
	r.patch(5, 0, 1, 0)
	r.patch(6, 0, 1, 0, 1)
	r.later([]int{1}, []int{5}, 0)
	// The number of what the free makes, which is not given yet, is among those that settle.
	r.settles(1+3, 2, 3)
	r.pending(0, 0)
	r.same("stable", r.stable(3, 1), []byte{62})
	r.patch(5, 0, 1, 0)
	r.patch(6, 0, 1, 0, 4)
	r.later([]int{4}, []int{6}, 0)
	r.s.Limit(1)
	r.same("Settle", r.v.Settle(5), api.ErrDown)
	r.pending(2, 0)
	r.same("maps", r.taken(), "60 7 63 7")
}

// 17.2: several frees, of one group and of several: one by one, in the order in which they came; those that wait are passed over, and keep their places.
func TestFreesInOrder(t *testing.T) {
	r := fresh(t, 3)
	r.patch(5, 0, 1, 0)
	r.patch(6, 0, 1, 0)
	r.later([]int{1}, []int{8}, 0)
	r.later([]int{2}, []int{9}, 0)
	r.later([]int{1}, []int{5, 15}, 0)
	r.later([]int{2, 1}, nil, 2)
	r.later([]int{1}, nil, 4)
	r.settles(1, 1)
	r.pending(5, 2)
	ok := api.OK.Error()
	r.same("patch 3", r.told(3), "3 0 [55] 3 [] 0 0 false "+ok)
	r.same("patch 4", r.told(4), "3 0 [54] 3 [] 0 0 false "+ok)
	r.same("patch 5", r.told(5), "12 0 [61] 3 [] 0 0 false "+ok)
	r.same("patch 6", r.told(6), "12 16 [6] 3 [] 0 0 false "+ok)
	r.settles(1, 2)
	r.pending(6, 0)
	r.same("patch 7", r.told(7), "3 0 [38] 3 [] 0 0 false "+ok)
	r.same("patch 8", r.told(8), "3 16 [5] 3 [] 0 0 false "+ok)
	r.same("maps", r.taken(), "38 5 61 6")
}

// 17.2: each free is asked when its turn comes: one that names a patch which one ahead of it makes waits for that.
func TestFreeBehindAnother(t *testing.T) {
	r := fresh(t, 3)
	r.patch(5, 0, 1, 0)
	r.later(nil, []int{5}, 0)
	r.later([]int{2}, []int{6}, 0)
	r.later([]int{3}, []int{7}, 0)
	r.settles(1, 1)
	r.pending(2, 1)
	r.same("maps", r.taken(), "58 7 63 7")
	r.settles(1, 2)
	r.pending(1, 0)
	r.same("maps", r.taken(), "56 7 63 7")
}

// 17.2: a place that is not taken is patched all the same; a place twice, and bits of another byte.
func TestFreeOfFree(t *testing.T) {
	l := blank()
	l[3] = sealed(api.KindMaps, api.Load{0: 2, 1: 255, 18: 255})
	r := of(t, 3, l)
	r.patch(19, 0, 1, 0)
	r.later(nil, []int{5, 6, 6}, 3)
	r.settles(1, 1)
	r.pending(4, 0)
	r.same("maps", r.load(3, api.KindMaps), api.Load{0: 0, 1: 255, 18: 255})
	r.same("patch 5", r.told(5), "3 16 [0] 3 [] 0 0 false "+api.OK.Error())
}

// 17.2: a disk of the greatest shape: each bit in its own byte, and no other bit is changed.
func TestFreeOfAll(t *testing.T) {
	r := bigRig(t)
	r.patch(5, 0, 1, 0)
	const at = 2 + 7*138 // where the last group begins
	var blocks []int
	for i := range api.MaxData {
		blocks = append(blocks, at+10+i)
	}
	r.later(nil, blocks, 0)
	for i := range 24 {
		r.later(nil, nil, 7*24+i+1)
	}
	r.says(129, true)
	r.settles(1, 1)
	r.pending(api.MaxData+24, 0)
	for i := range api.MaxData + 24 {
		p, e := r.v.Graph().Get(2 + i)
		r.same("where it lies", []any{p.At, p.Off, e}, []any{at + 1, i / 8, api.OK})
	}
	r.same("Sync", r.v.Sync(), api.OK)
	r.same("maps", r.load(at+1, api.KindMaps), api.Load{19: 1, 53: 1})
	r.says(0, true)
}

// 17.2: what is no sector of data, and an inode that there is not, are let go, and all else is done.
func TestFreeOfOthers(t *testing.T) {
	r := fresh(t, 3)
	r.patch(5, 0, 1, 0)
	r.later([]int{1}, append([]int{0, 1, 2, 3, 4, 8, 11, 12, 13}, strange...), 7)
	r.later([]int{1}, []int{2, 3}, -1)
	r.later([]int{1}, nil, 0)
	r.settles(1, 1)
	r.pending(1, 0)
	r.same("maps", r.taken(), "55 7 63 7")
}

// 17.2: where the maps are not right now nothing is done for their group, and the free is one no more.
func TestFreeOfWrongMaps(t *testing.T) {
	for _, b := range []api.Block{{}, {1}, sealed(api.KindHead, api.Load{63}), sealed(api.KindInode, api.Load{0: 63, 16: 7})} {
		l := blank()
		l[3] = b
		r := of(t, 3, l)
		r.patch(19, 0, 1, 0)
		r.later(nil, []int{5, 14, 6}, 2)
		r.settles(1, 1)
		r.pending(1, 0)
		r.same("patch 2", r.told(2), "12 0 [62] 3 [] 0 0 false "+api.OK.Error())
		r.same("Sync", r.v.Sync(), api.OK)
		r.same("the sector", r.d.Image()[3], b)
	}
}

// 17.2: maps that a patch makes right, or wrong, are so now, whether that is written or not.
func TestFreeOfMapsNow(t *testing.T) {
	l := blank()
	l[3] = api.Block{9}
	r := of(t, 3, l)
	r.patch(19, 0, 1, 0)
	r.patch(3, 0, 3, api.KindMaps)
	r.patch(12, 54, 0, 0)
	r.later(nil, []int{5, 14}, 0)
	r.settles(1, 1)
	r.pending(3, 0)
	r.same("patch 4", r.told(4), "3 0 [2] 3 [] 0 0 false "+api.OK.Error())
	r.same("Sync", r.v.Sync(), api.OK)
	r.same("maps", r.load(3, api.KindMaps), api.Load{2})
}

// 17.2: Sync does the frees that are left when the graph has no patch, and begins anew; all of them at once, in order, whatever they come behind.
func TestSyncFrees(t *testing.T) {
	r := fresh(t, 3)
	r.later(nil, []int{6}, 0)
	r.later([]int{1, 99}, []int{14}, 0) // 1 is what the first one makes
	r.later([]int{-5}, nil, 1)
	r.costs(3+3, func() { r.same("Sync", r.v.Sync(), api.OK) })
	r.pending(0, 0)
	r.same("maps", fmt.Sprint(r.stable(3, 17), r.stable(12, 17)), fmt.Sprint([]byte{0: 61, 16: 6}, []byte{0: 62, 16: 7}))
	r.says(0, true)
	r.same("the next number", r.patch(5, 0, 1, 0), 4)
	r.later([]int{4}, []int{7}, 0)
	r.costs(1+1+3, func() { r.same("Sync", r.v.Sync(), api.OK) })
	r.pending(0, 0)
	r.same("maps", r.stable(3, 1), []byte{57})
	r.later(nil, []int{0}, 9)
	r.costs(0, func() { r.same("Sync of nothing to give back", r.v.Sync(), api.OK) })
	r.pending(0, 0)
}

// 17.1, 17.2: a free's patch marks its group, if that is not marked. Where the power goes then the patch is in the graph, that place is not given back once more, and the others are a free still, ahead of those behind it.
func TestFreeDown(t *testing.T) {
	for units := range 3 {
		r := fresh(t, 3)
		r.patch(19, 0, 1, 0)
		r.later(nil, []int{3, 5, 15, 6}, 0)
		r.later(nil, []int{7}, 0)
		r.w.Clear()
		r.s.Limit(1 + units)
		r.same("Settle", r.v.Settle(1), api.ErrDown)
		r.pending(1, 2)
		r.same("maps", r.taken(), "62 7 63 7")
		if units == 0 {
			r.says(0, true)
		} else {
			r.says(nvram.All(), false)
		}
		r.s.Restore()
		// What was given back is taken anew, and stays so.
		r.patch(3, 0, 63, api.KindMaps)
		r.settles([]int{4, 1, 1}[units], 2)
		r.same("maps", r.taken(), "57 7 61 7")
		r.pending(3, 0)
		r.says([]uint32{3, 255, 255}[units], units == 0)
	}
}

// 17.2: what is left of such a free still comes behind its patches, also behind one whose number was given since.
func TestFreeDownWaits(t *testing.T) {
	r := fresh(t, 3)
	r.patch(19, 0, 1, 0)
	r.later([]int{3}, []int{5, 6}, 0)
	r.w.Clear()
	r.s.Limit(1)
	r.same("Settle", r.v.Settle(1), api.ErrDown)
	r.pending(1, 1)
	r.s.Restore()
	r.patch(18, 0, 1, 0) // 3
	r.patch(17, 0, 1, 0)
	r.settles(1, 4)
	r.pending(2, 1)
	r.same("maps", r.taken(), "62 7 63 7")
	r.settles(1+3, 3) // group 0 is marked then
	r.pending(2, 0)
	r.same("maps", r.taken(), "60 7 63 7")
}

// 17.1, 17.2: the power goes at a free's last place: all of it is given back, and it is a free no more.
func TestFreeDownAtItsEnd(t *testing.T) {
	r := fresh(t, 3)
	r.later(nil, []int{5}, 0)
	r.later(nil, []int{6}, 0)
	r.w.Clear()
	r.s.Limit(0)
	r.same("Sync", r.v.Sync(), api.ErrDown)
	r.pending(1, 1)
	r.same("maps", r.taken(), "62 7 63 7")
	r.s.Restore()
	r.same("Sync", r.v.Sync(), api.OK)
	r.pending(0, 0)
	r.same("maps", r.stable(3, 1), []byte{60})
}

// 17.2: maps can't be read, since what the disk refused must go from the cache, and can't: that place, and those behind it, are a free still, and those ahead of it are given back.
func TestFreeUnread(t *testing.T) {
	for given := range 2 {
		r := fresh(t, 2+given)
		for at := 5; at < 8; at++ {
			r.patch(at, 0, byte(at), 0)
		}
		r.later(nil, [][]int{{8}, {8, 14}}[given], 2)
		r.s.Limit(0)
		r.same("Settle", r.v.Settle(1, 2), api.ErrDown) // sector 5 is changed in the cache
		if given == 1 {
			r.first(3, 1) // so that group 0's maps are held
		}
		r.s.Restore()
		r.s.Limit(1)
		r.same("Settle", r.v.Settle(3), api.ErrDown)
		r.pending(2+given, 1)
		r.s.Restore()
		r.same("stable", r.stable(7, 1), []byte{7})
		r.same("maps", r.taken(), []string{"63 7 63 7", "55 7 63 7"}[given])
		r.same("Sync", r.v.Sync(), api.OK)
		r.pending(0, 0)
		r.same("maps", r.taken(), []string{"55 5 63 7", "55 5 62 7"}[given])
	}
}
