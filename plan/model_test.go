package plan_test

import (
	"slices"
	"testing"

	"scupper/api"
	"scupper/graph"
	"scupper/plan"
)

// model is the chapters' words once more (14, 16): a list of the patches that are in the graph, gone over again for each thing that is asked.
type model []api.Patch

func (m model) has(id int) bool {
	return slices.ContainsFunc(m, func(p api.Patch) bool { return p.Id == id })
}

// meet goes over the bytes one by one.
func meet(p, q api.Patch) bool {
	if p.At != q.At {
		return false
	}
	if p.Kind != q.Kind {
		return true
	}
	for i := range p.Data {
		if k := p.Off + i - q.Off; k >= 0 && k < len(q.Data) {
			return true
		}
	}
	return false
}

// before is the patches with lesser numbers that are not written, and meet p.
func (m model) before(p api.Patch) []api.Patch {
	var l []api.Patch
	for _, q := range m {
		if q.Id < p.Id && !q.Written && meet(p, q) {
			l = append(l, q)
		}
	}
	return l
}

func (m model) ready(p api.Patch) bool {
	if p.Written || slices.ContainsFunc(p.Needs, m.has) {
		return false
	}
	return !slices.ContainsFunc(m.before(p), func(q api.Patch) bool { return !m.ready(q) })
}

// needed takes in what is needed by what is there, until nothing is new.
func (m model) needed(ids []int) []api.Patch {
	var l []api.Patch
	for todo := slices.Clone(ids); len(todo) > 0; todo = todo[1:] {
		is := func(p api.Patch) bool { return p.Id == todo[0] }
		k := slices.IndexFunc(m, is)
		if k < 0 || slices.ContainsFunc(l, is) {
			continue
		}
		l = append(l, m[k])
		todo = append(todo, m[k].Needs...)
		if m[k].Written {
			continue
		}
		for _, q := range m.before(m[k]) {
			todo = append(todo, q.Id)
		}
	}
	return l
}

// next asks of each sector that may be whether it is one of the batch.
func (m model) next(ids []int, most int) (plan.Batch, bool) {
	needed := m.needed(ids)
	if len(needed) == 0 {
		return plan.Batch{}, false
	}
	var b plan.Batch
	for at := range most {
		if slices.ContainsFunc(needed, func(p api.Patch) bool { return p.At == at && m.ready(p) }) {
			b.Sectors = append(b.Sectors, at)
		}
	}
	elsewhere := func(p api.Patch) bool { return p.Written && p.At != b.Sectors[0] }
	b.Forced = len(b.Sectors) == 1 && !slices.ContainsFunc(m, elsewhere)
	return b, true
}

// carry is the patches that b writes, and what is left then.
func (m model) carry(b plan.Batch) ([]int, model) {
	now := slices.Clone(m)
	var wrote []int
	for _, at := range b.Sectors {
		turn := slices.Clone(now) // what is ready is told of the sector's turn as a whole
		for i, p := range turn {
			if p.At == at && turn.ready(p) {
				now[i].Written = true
				wrote = append(wrote, p.Id)
			}
		}
	}
	return wrote, slices.DeleteFunc(now, func(p api.Patch) bool { return p.Written })
}

func (m model) ids() []int {
	var l []int
	for _, p := range m {
		l = append(l, p.Id)
	}
	return l
}

// dice is numbers that look as if they were drawn, and are the same in each run.
type dice uint64

func (d *dice) below(n int) int {
	*d = *d*6364136223846793005 + 1442695040888963407
	return int(uint64(*d)>>33) % n
}

// patch is one of few bytes, so that some meet and some do not, and needs some of the last ones that were added.
func (d *dice) patch(last, sectors int) api.Patch {
	p := api.Patch{At: d.below(sectors), Off: d.below(8), Kind: api.KindInode, Data: make([]byte, 1+d.below(3))}
	if d.below(6) == 0 {
		p.Kind = d.below(7)
	}
	for range d.below(3) {
		if last > 0 {
			p.Needs = append(p.Needs, max(last-d.below(7), 1))
		}
	}
	return p
}

// some is up to four numbers of patches, at times one that there is not.
func (d *dice) some(last int) []int {
	var l []int
	for range d.below(5) {
		l = append(l, d.below(last+3)-1)
	}
	return l
}

// grown is a graph and the model of it, of which something is written already at times.
func grown(d *dice, many, sectors int) (*graph.Graph, model) {
	g := graph.New()
	for last := range many {
		g.Add(d.patch(last, sectors))
		if d.below(4) == 0 {
			g.Write(1 + d.below(last+1)) // refused, if it is not ready
		}
		if d.below(9) == 0 {
			g.Settle(d.below(sectors))
		}
	}
	var m model
	for _, id := range g.All() {
		p, _ := g.Get(id)
		m = append(m, p)
	}
	return g, m
}

// 16.1, 16.2: graphs of all sorts: each batch, what it writes, and what is left, as the model tells it; and all of them at once.
func TestAsTheModel(t *testing.T) {
	for seed := range 600 {
		d := dice(seed + 1)
		sectors := 1 + seed%7
		g, m := grown(&d, 4+d.below(26), sectors)
		last := len(m) + 10
		ids := d.some(last)
		if seed%5 == 0 {
			ids = g.All()
		}
		was := g.Copy()
		all := plan.Batches(g, ids...)
		sameGraph(t, g, was)
		for k := 0; ; k++ {
			want, more := m.next(ids, sectors)
			b, is := plan.Next(g, ids...)
			if is != more || !alike(b, want) {
				t.Fatalf("seed %d, Next %d of %v: %v, %v, want %v, %v", seed, k, ids, b, is, want, more)
			}
			if more != (k < len(all)) || more && !alike(all[k], want) {
				t.Fatalf("seed %d, Batches of %v: %v; the one at %d is %v, %v", seed, ids, all, k, want, more)
			}
			if !more {
				break
			}
			wrote := plan.Carry(g, b)
			var told []int
			told, m = m.carry(want)
			sameList(t, "written", wrote, told...)
			sameList(t, "left", g.All(), m.ids()...)
			sameList(t, "written and not stable", g.Written())
			if t.Failed() {
				t.Fatalf("seed %d, batch %d of %v: %v", seed, k, ids, b)
			}
		}
	}
}

// 16.3: behind all batches nothing that was needed is left, and there were no more of them than patches that were needed; each one wrote or settled something that was.
func TestAll(t *testing.T) {
	for seed := range 300 {
		d := dice(seed + 5000)
		g, m := grown(&d, 5+d.below(36), 1+seed%9)
		ids := d.some(len(m) + 10)
		needed := g.Needed(ids...)
		l := plan.Batches(g, ids...)
		if len(l) > len(needed) {
			t.Fatalf("seed %d: %d batches of %d patches", seed, len(l), len(needed))
		}
		for k, b := range l {
			left := len(g.Needed(ids...))
			plan.Carry(g, b)
			if now := len(g.Needed(ids...)); now >= left {
				t.Fatalf("seed %d: batch %d left %d of %d needed", seed, k, now, left)
			}
		}
		for _, id := range needed {
			if _, e := g.Get(id); e != api.ErrNone {
				t.Fatalf("seed %d: patch %d was needed, and is in the graph behind all batches", seed, id)
			}
		}
	}
}

// 16.3: as many batches as patches: each one needs the one ahead of it, in turns of two sectors; and one batch of many that need none.
func TestManyBatches(t *testing.T) {
	g, h := graph.New(), graph.New()
	const many = 60
	for i := range many {
		put(t, g, i%2, 0, g.All()...)
		put(t, h, i, 0)
	}
	l := plan.Batches(g, many)
	sameCost(t, plan.Price{Forces: many}, l...)
	if len(l) != many {
		t.Errorf("%d batches, want %d", len(l), many)
	}
	for i, b := range l {
		sameList(t, "sectors", b.Sectors, i%2)
	}
	sameCost(t, plan.Price{Writes: many, Flushes: 1}, plan.Batches(h, h.All()...)...)
}

// 16.4: what a patch needs was stable ahead of the batch that wrote it, or went in one ahead.
func TestAhead(t *testing.T) {
	for seed := range 300 {
		d := dice(seed + 9000)
		g, m := grown(&d, 5+d.below(36), 1+seed%9)
		in := map[int]int{} // by numbers: the batch that wrote the patch, from 2 on; 1: it was written ahead of all
		for _, p := range m {
			if p.Written {
				in[p.Id] = 1
			}
		}
		for k, b := range plan.Batches(g, g.All()...) {
			for _, id := range plan.Carry(g, b) {
				in[id] = k + 2
			}
		}
		for _, p := range m {
			if in[p.Id] == 0 {
				t.Fatalf("seed %d: patch %d was never written", seed, p.Id)
			}
			for _, n := range p.Needs {
				if !p.Written && in[n] >= in[p.Id] {
					t.Fatalf("seed %d: patch %d is of batch %d, and %d, which it needs, of %d", seed, p.Id, in[p.Id], n, in[n])
				}
			}
			for _, q := range m {
				if !p.Written && q.Id < p.Id && meet(p, q) && in[q.Id] > in[p.Id] {
					t.Fatalf("seed %d: patch %d is of batch %d, and %d, which it meets, of %d", seed, p.Id, in[p.Id], q.Id, in[q.Id])
				}
			}
		}
	}
}
