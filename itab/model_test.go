package itab_test

import (
	"fmt"
	"testing"

	"scupper/api"
	"scupper/inode"
	"scupper/itab"
)

// dice is numbers that look as if they were drawn, and are the same in each run.
type dice uint64

func (d *dice) below(n int) int {
	*d = *d*6364136223846793005 + 1442695040888963407
	return int(uint64(*d)>>33) % n
}

// inode is one of any bytes, of which many are noughts.
func (d *dice) inode() api.Inode {
	b := make([]byte, 18)
	for i := range b {
		if d.below(3) > 0 {
			b[i] = byte(d.below(256))
		}
	}
	if d.below(3) > 0 {
		b[0] = byte(d.below(3))
	}
	return of(b)
}

// needs is some numbers of patches, the last of which was given as last; seldom one that was not.
func (d *dice) needs(last int) []int {
	var l []int
	for range d.below(4) {
		if last > 0 {
			l = append(l, 1+d.below(last))
		}
	}
	if d.below(12) == 0 {
		l = append(l, []int{0, -1, last + 1}[d.below(3)])
	}
	return l
}

// The chapter's words once more, on a volume of its own.

// load is the inode by its bytes in its sector now.
func (r *rig) load(ino int) (api.Inode, api.Errno) {
	if ino < 1 || ino > count(r.g) {
		return api.Inode{}, api.ErrArg
	}
	sector, off, _ := at(r.g, ino)
	p, e := r.v.Load(sector, 4)
	if e != api.OK {
		return api.Inode{}, e
	}
	return of(p[off : off+18]), api.OK
}

// put is the patch of the field's bytes.
func (r *rig) put(ino, child int, f inode.Field, x api.Inode, needs []int) (int, api.Errno) {
	if ino < 1 || ino > count(r.g) || f < 0 || f > 9 {
		return 0, api.ErrArg
	}
	sector, off, _ := at(r.g, ino)
	from, long := fields[f][0], fields[f][1]
	return r.v.Patch(api.Patch{At: sector, Off: off + from, Data: bytesOf(x)[from : from+long], Kind: 4, Needs: needs, Owner: ino, Child: child})
}

// used is the inodes whose kind now is not 0.
func (r *rig) used() []int {
	var l []int
	for ino := 1; ino <= count(r.g); ino++ {
		if x, e := r.load(ino); e == api.OK && x.Kind != 0 {
			l = append(l, ino)
		}
	}
	return l
}

// step does one thing to the volume by the calls, and to the model by the words, and tells what both answer.
func step(d *dice, r, m *rig, last int) (string, any, any) {
	list := func(l ...any) []any { return l }
	ino, f, x := d.below(count(r.g)+3)-1, inode.Field(d.below(12)-1), d.inode()
	needs := d.needs(last)
	switch d.below(12) {
	case 0, 1, 2:
		return fmt.Sprint("Set ", ino, f, x, needs), list(itab.Set(r.v, ino, f, x, needs...)), list(m.put(ino, 0, f, x, needs))
	case 3, 4:
		child := d.below(30) - 3
		return fmt.Sprint("About ", ino, child, f, x, needs), list(itab.About(r.v, ino, child, f, x, needs...)), list(m.put(ino, child, f, x, needs))
	case 5, 6:
		return fmt.Sprint("Load ", ino), list(itab.Load(r.v, ino)), list(m.load(ino))
	case 7:
		return "All", itab.All(r.v), m.used()
	case 8:
		sector, _, _ := at(r.g, 1+d.below(count(r.g)))
		p := api.Patch{At: sector, Off: d.below(54), Data: []byte{byte(d.below(4))}, Kind: []int{4, 4, 4, 6, 0}[d.below(5)], Needs: needs}
		return fmt.Sprint("Patch ", p), list(r.v.Patch(p)), list(m.v.Patch(p))
	case 9:
		return fmt.Sprint("Settle ", needs), r.v.Settle(needs...), m.v.Settle(needs...)
	case 10:
		if d.below(3) > 0 {
			return "Sync", r.v.Sync(), m.v.Sync()
		}
		n := d.below(9)
		return fmt.Sprint("Limit ", n), r.s.Limit(n), m.s.Limit(n)
	}
	r.s.Restore()
	m.s.Restore()
	return "Restore", nil, nil
}

// 19.1, 19.2: long runs on disks of several shapes, with inodes, fields and needs that there are not, sectors that patches turn wrong and right, settling, and the power going and coming back: each answer, and all that is left, as the chapter's words tell it.
func TestAsTheWords(t *testing.T) {
	for seed := range 60 {
		dice := dice(seed + 1)
		g := []api.Geom{three, {Groups: 1, Inodes: 1, Data: 4}, {Groups: 2, Inodes: 3, Data: 5}, {Groups: 4, Inodes: 1, Data: 4}}[seed%4]
		l := full(g, func(int) api.Inode { return dice.inode() })
		if seed%3 == 0 {
			l[4] = wrong()[seed/3%len(wrong())]
		}
		size := []int{1, 3, api.MaxCache}[seed/4%3]
		r, m := fresh(t, g, size, l), fresh(t, g, size, l)
		var told []string
		for range 45 {
			last := 0
			if all := r.v.Graph().All(); len(all) > 0 {
				last = all[len(all)-1]
			}
			what, got, want := step(&dice, r, m, last)
			told = append(told, what)
			r.same("the answer", got, want)
			r.same("what is left", r.state() == m.state(), true)
			if t.Failed() {
				t.Fatalf("seed %d: %q", seed, told)
			}
		}
	}
}

// 19.3: whatever was set, each field is as it was set last, and all other fields, and inodes, are as they were; and so is all else of the disk.
func TestSet(t *testing.T) {
	for seed := range 60 {
		dice := dice(seed + 7000)
		g := shapes[seed%4]
		want := map[int][]byte{}
		l := full(g, func(ino int) api.Inode {
			x := dice.inode()
			want[ino] = bytesOf(x)
			return x
		})
		r := fresh(t, g, []int{1, 5, api.MaxCache}[seed%3], l)
		for range 40 {
			ino, f, x := 1+dice.below(count(g)), inode.Field(dice.below(10)), dice.inode()
			from, long := fields[f][0], fields[f][1]
			copy(want[ino][from:from+long], bytesOf(x)[from:])
			if dice.below(2) == 0 {
				_, e := itab.Set(r.v, ino, f, x)
				r.same("Set", e, api.OK)
			} else {
				_, e := itab.About(r.v, ino, dice.below(9), f, x)
				r.same("About", e, api.OK)
			}
			if dice.below(4) == 0 {
				r.syncs()
			}
			r.holds(want)
		}
		r.syncs()
		for at, b := range r.d.Image() {
			if b[54] != 4 {
				r.same("another sector", b, l[at])
			}
		}
		if t.Failed() {
			t.Fatalf("seed %d", seed)
		}
	}
}

// holds holds all inodes against their bytes, and All against their kinds.
func (r *rig) holds(want map[int][]byte) {
	r.t.Helper()
	var all []int
	for ino := 1; ino <= count(r.g); ino++ {
		r.is(ino, of(want[ino]), api.OK)
		if want[ino][0] != 0 {
			all = append(all, ino)
		}
	}
	r.all(all...)
}

// 19.3: each field of an inode that is noughts, and of one that is not, in each slot: just its bytes are changed, to noughts and from them.
func TestEachField(t *testing.T) {
	for f, at := range fields {
		for slot := range 3 {
			for _, x := range []api.Inode{{}, unlike(77)} {
				r := fresh(t, three, 9, full(three, unlike))
				want := map[int][]byte{}
				for ino := 1; ino <= count(three); ino++ {
					want[ino] = bytesOf(unlike(ino))
				}
				copy(want[10+slot][at[0]:at[0]+at[1]], bytesOf(x)[at[0]:])
				r.set(10+slot, inode.Field(f), x, nil, 1, api.OK)
				r.holds(want)
				r.syncs()
				r.holds(want)
			}
		}
	}
}
