package vol

import (
	"scupper/api"
	"scupper/plan"
	"scupper/roll"
)

// Settle makes the patches ids, and all that they need, stable, batch by batch, as far as the power lasts.
func (v *Vol) Settle(ids ...int) api.Errno {
	if v == nil {
		return api.ErrNil
	}
	for b, more := plan.Next(v.patches.Graph, ids...); more; b, more = plan.Next(v.patches.Graph, ids...) {
		if e := v.carry(b); e != api.OK {
			return e
		}
	}
	return api.OK
}

// Sync makes all patches stable, does all frees, and lets the words say just the groups of the sectors keep.
func (v *Vol) Sync(keep ...int) api.Errno {
	if v == nil {
		return api.ErrNil
	}
	if e := v.settleAll(); e != api.OK {
		return e
	}
	// What settles does most frees; those that are left make patches, which are to settle in turn.
	for len(v.frees) > 0 {
		if e := v.finishThose(func(release) bool { return true }); e != api.OK {
			return e
		}
		if e := v.settleAll(); e != api.OK {
			return e
		}
	}
	return v.turnTo(v.groups(keep))
}

// settleAll makes all patches stable, those of frees that are done on the way, too.
func (v *Vol) settleAll() api.Errno {
	for ids := v.All(); len(ids) > 0; ids = v.All() {
		if e := v.Settle(ids...); e != api.OK {
			return e
		}
	}
	return api.OK
}

// carry carries b out: its sectors are written and made stable, and what waited for that alone is free.
func (v *Vol) carry(b plan.Batch) api.Errno {
	for _, sector := range b.Sectors {
		if e := v.bring(sector, b.Forced); e != api.OK {
			return e
		}
	}
	if !b.Forced {
		if e := v.disk.Flush(); e != api.OK {
			return e
		}
	}
	v.SettleAll()
	return v.finishThose(func(r release) bool { return !v.waits(r) })
}

// bring writes a sector with those patches alone over it that are ready. The others stay in the graph, and are laid over it when it is read.
func (v *Vol) bring(sector int, forced bool) api.Errno {
	was, e := v.Cache.Get(sector)
	if e != api.OK {
		return e
	}
	ready := v.Ready(sector)
	b, _ := roll.Some(was, v.Of(sector), ready) // the graph has no patch that can't be laid
	if e := v.store(sector, b, forced); e != api.OK {
		return e
	}
	return v.Write(ready...)
}

// store gives the disk what a sector is to be: stable at once, or to wait for a flush.
func (v *Vol) store(sector int, b api.Block, forced bool) api.Errno {
	if forced {
		return v.Force(sector, b)
	}
	if e := v.Put(sector, b); e != api.OK {
		return e
	}
	return v.Back(sector)
}

// groups is the bits of the groups of these sectors, of those that have one.
func (v *Vol) groups(sectors []int) uint32 {
	var bits uint32
	for _, sector := range sectors {
		if group, in := v.group(sector); in {
			bits |= 1 << group
		}
	}
	return bits
}

// turnTo lets the words say just these groups. Words that do so are left, since each turn takes power.
func (v *Vol) turnTo(groups uint32) api.Errno {
	if said, right := v.words.Says(); right && said == groups {
		return api.OK
	}
	return v.words.Keep(groups)
}
