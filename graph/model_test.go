package graph_test

import (
	"slices"
	"testing"

	"scupper/api"
	"scupper/graph"
)

// model is the chapter's words once more: a list of the patches that are in the graph, gone over again for each thing that is asked.
type model struct {
	last int
	list []api.Patch
}

func (m *model) find(id int) int {
	return slices.IndexFunc(m.list, func(p api.Patch) bool { return p.Id == id })
}

func (m *model) copy() *model {
	c := &model{last: m.last}
	for _, p := range m.list {
		p.Data, p.Needs = slices.Clone(p.Data), slices.Clone(p.Needs)
		c.list = append(c.list, p)
	}
	return c
}

func refused(m *model, p api.Patch) bool {
	most := 64
	if p.Kind != 0 {
		most = 54
	}
	if p.At < 0 || p.At > 2047 || p.Kind < 0 || p.Kind > 6 || len(p.Data) == 0 {
		return true
	}
	if p.Off < 0 || p.Off > 63 || p.Off+len(p.Data) > most {
		return true
	}
	return slices.ContainsFunc(p.Needs, func(n int) bool { return n <= 0 || n > m.last })
}

func (m *model) add(p api.Patch) (int, api.Errno) {
	if refused(m, p) {
		return 0, api.ErrArg
	}
	m.last++
	p.Id, p.Written = m.last, false
	p.Data, p.Needs = slices.Clone(p.Data), slices.Clone(p.Needs)
	m.list = append(m.list, p)
	return m.last, api.OK
}

// meet goes over the bytes one by one.
func meet(p, q api.Patch) bool {
	if p.At != q.At {
		return false
	}
	if p.Kind != q.Kind {
		return true
	}
	for i := range p.Data {
		for k := range q.Data {
			if p.Off+i == q.Off+k {
				return true
			}
		}
	}
	return false
}

// before is the patches with lesser numbers that are not written, and meet p.
func (m *model) before(p api.Patch) []api.Patch {
	var l []api.Patch
	for _, q := range m.list {
		if q.Id < p.Id && !q.Written && meet(p, q) {
			l = append(l, q)
		}
	}
	return l
}

func (m *model) ready(p api.Patch) bool {
	if p.Written || slices.ContainsFunc(p.Needs, func(n int) bool { return m.find(n) >= 0 }) {
		return false
	}
	return !slices.ContainsFunc(m.before(p), func(q api.Patch) bool { return !m.ready(q) })
}

func (m *model) these(is func(api.Patch) bool) []int {
	var l []int
	for _, p := range m.list {
		if is(p) {
			l = append(l, p.Id)
		}
	}
	return l
}

func (m *model) of(sector int) []api.Patch {
	var l []api.Patch
	for _, p := range m.list {
		if p.At == sector && !p.Written {
			l = append(l, p)
		}
	}
	return l
}

// needed takes in what is needed by what is there, until nothing is new.
func (m *model) needed(ids ...int) []int {
	var l []int
	for todo := slices.Clone(ids); len(todo) > 0; todo = todo[1:] {
		k := m.find(todo[0])
		if k < 0 || slices.Contains(l, todo[0]) {
			continue
		}
		p := m.list[k]
		l = append(l, p.Id)
		todo = append(todo, p.Needs...)
		if !p.Written {
			for _, q := range m.before(p) {
				todo = append(todo, q.Id)
			}
		}
	}
	slices.Sort(l)
	return l
}

func (m *model) write(ids ...int) api.Errno {
	for _, id := range ids {
		k := m.find(id)
		if k < 0 {
			return api.ErrNone
		}
		if !m.ready(m.list[k]) || len(m.before(m.list[k])) > 0 {
			return api.ErrCycle
		}
		m.list[k].Written = true
	}
	return api.OK
}

// settle is of all sectors, if sector is below 0.
func (m *model) settle(sector int) int {
	n := len(m.list)
	m.list = slices.DeleteFunc(m.list, func(p api.Patch) bool { return p.Written && (sector < 0 || p.At == sector) })
	return n - len(m.list)
}

func (m *model) sectors() []int {
	var l []int
	for i := range 2048 {
		if slices.ContainsFunc(m.list, func(p api.Patch) bool { return p.At == i && !p.Written }) {
			l = append(l, i)
		}
	}
	return l
}

func alike(p, q api.Patch) bool {
	return p.Id == q.Id && p.At == q.At && p.Off == q.Off && p.Kind == q.Kind && p.Owner == q.Owner && p.Child == q.Child &&
		p.Written == q.Written && slices.Equal(p.Data, q.Data) && slices.Equal(p.Needs, q.Needs)
}

// differs is the first thing that g and m tell otherwise; sectors, owners and children are those below most.
func differs(g *graph.Graph, m *model, most int) string {
	if !slices.Equal(g.All(), m.these(func(api.Patch) bool { return true })) {
		return "All"
	}
	if !slices.Equal(g.Written(), m.these(func(p api.Patch) bool { return p.Written })) {
		return "Written"
	}
	for i := -1; i <= most; i++ {
		if !slices.EqualFunc(g.Of(i), m.of(i), alike) {
			return "Of"
		}
		if !slices.Equal(g.Ready(i), m.these(func(p api.Patch) bool { return p.At == i && m.ready(p) })) {
			return "Ready"
		}
		if !slices.Equal(g.By(i), m.these(func(p api.Patch) bool { return p.Owner == i })) {
			return "By"
		}
		if !slices.Equal(g.About(i), m.these(func(p api.Patch) bool { return p.Child == i })) {
			return "About"
		}
	}
	for id := -1; id <= m.last+1; id++ {
		p, e := g.Get(id)
		if k := m.find(id); k < 0 && (e != api.ErrNone || !alike(p, api.Patch{})) || k >= 0 && (e != api.OK || !alike(p, m.list[k])) {
			return "Get"
		}
		if !slices.Equal(g.Needed(id), m.needed(id)) {
			return "Needed"
		}
	}
	return ""
}

// rest is what differs looks at not so often: lists of several, and all sectors that may be.
func rest(g *graph.Graph, m *model) string {
	if !slices.Equal(g.Sectors(), m.sectors()) {
		return "Sectors"
	}
	for id := 0; id <= m.last; id++ {
		if !slices.Equal(g.Needed(m.last, id), m.needed(m.last, id)) {
			return "Needed of two"
		}
	}
	if len(m.list) > 0 && len(g.Written()) == 0 && !slices.ContainsFunc(g.Sectors(), func(i int) bool { return len(g.Ready(i)) > 0 }) {
		return "it does not go on"
	}
	return ""
}

// step is one thing that is asked: a patch that is added; a number that is written; or a sector that is settled (-1: all).
type step struct {
	add    *api.Patch
	write  int
	settle int
}

// run does s with both, and is whether they answer alike.
func run(s step, g *graph.Graph, m *model) bool {
	switch {
	case s.add != nil:
		id, e := g.Add(*s.add)
		wid, we := m.add(*s.add)
		return id == wid && e == we
	case s.write != 0:
		return g.Write(s.write) == m.write(s.write)
	case s.settle < 0:
		return g.SettleAll() == m.settle(-1)
	}
	return g.Settle(s.settle) == m.settle(s.settle)
}

// steps are all that runs are made of: patches of two sectors that meet some others and not all, with and without needs.
func steps() []step {
	var l []step
	shapes := []api.Patch{
		{Off: 0, Data: []byte{1}, Kind: 4},
		{Off: 0, Data: []byte{2, 3}, Kind: 4},
		{Off: 1, Data: []byte{4}, Kind: 4},
		{Off: 9, Data: []byte{5}, Kind: 0},
	}
	for at := range 2 {
		for _, p := range shapes {
			for _, needs := range [][]int{nil, {1}, {2, 1}} {
				p.At, p.Needs, p.Owner, p.Child = at, needs, at, 1-at
				l = append(l, step{add: &p})
			}
		}
	}
	return append(l, step{write: 1}, step{write: 2}, step{write: 3}, step{settle: 0}, step{settle: 1}, step{settle: -1})
}

// 14.1, 14.2, 14.3, 14.4: every run of up to four steps, with all that is told behind each. Each goes on with a copy, and leaves what it came from as it was.
func TestEveryRun(t *testing.T) {
	l := steps()
	var go1 func(g *graph.Graph, m *model, left int)
	go1 = func(g *graph.Graph, m *model, left int) {
		for k, s := range l {
			h, n := g.Copy(), m.copy()
			if !run(s, h, n) {
				t.Fatalf("step %d with %d left behind it: another answer, of %v", k, left, m.list)
			}
			if what := differs(h, n, 2); what != "" {
				t.Fatalf("step %d with %d left behind it: %s, of %v", k, left, what, m.list)
			}
			if left > 0 {
				go1(h, n, left-1)
			}
		}
		if what := differs(g, m, 2) + rest(g, m); what != "" {
			t.Fatalf("a copy's steps changed what it came from: %s, of %v", what, m.list)
		}
	}
	go1(graph.New(), &model{}, 3)
}

// dice is numbers that look as if they were drawn, and are the same in each run.
type dice uint64

func (d *dice) below(n int) int {
	*d = *d*6364136223846793005 + 1442695040888963407
	return int(uint64(*d)>>33) % n
}

func (d *dice) patch(m *model, sectors int) api.Patch {
	p := api.Patch{Id: d.below(9) - 4, At: d.below(sectors), Owner: d.below(4), Child: d.below(4), Written: d.below(2) == 0}
	if d.below(3) == 0 {
		p.Kind = d.below(7)
	} else {
		p.Kind = 4
	}
	p.Data = make([]byte, d.below(4)+d.below(2)*d.below(2)*d.below(62))
	for i := range p.Data {
		p.Data[i] = byte(d.below(256))
	}
	p.Off = d.below(66-min(len(p.Data), 64)) - 1
	for range d.below(4) {
		// Mostly late ones, so that chains come about; at times one that was not given.
		p.Needs = append(p.Needs, max(m.last-d.below(6)+d.below(2)*d.below(2)*d.below(2), d.below(2)))
	}
	return p
}

// 14.1, 14.2, 14.3: long runs, with lists of several to write.
func TestLongRuns(t *testing.T) {
	for seed := range 40 {
		d := dice(seed + 1)
		g, m := graph.New(), &model{}
		for turn := range 120 {
			switch d.below(8) {
			case 0, 1, 2, 3:
				p := d.patch(m, 1+seed%5)
				id, e := g.Add(p)
				wid, we := m.add(p)
				if id != wid || e != we {
					t.Fatalf("seed %d, turn %d: Add(%v) = %d, %v, want %d, %v", seed, turn, p, id, e, wid, we)
				}
			case 4, 5, 6:
				var ids []int
				for range d.below(4) {
					ids = append(ids, max(m.last-d.below(8), 0))
				}
				if e, we := g.Write(ids...), m.write(ids...); e != we {
					t.Fatalf("seed %d, turn %d: Write(%v) = %v, want %v", seed, turn, ids, e, we)
				}
			case 7:
				at := d.below(6) - 1
				n := 0
				if at < 0 {
					n = g.SettleAll()
				} else {
					n = g.Settle(at)
				}
				if w := m.settle(at); n != w {
					t.Fatalf("seed %d, turn %d: settling %d: %d, want %d", seed, turn, at, n, w)
				}
			}
			if what := differs(g, m, 5) + rest(g, m); what != "" {
				t.Fatalf("seed %d, turn %d: %s, of %v", seed, turn, what, m.list)
			}
		}
	}
}

// 14.3, 14.4: what is ready is written and settled, until nothing is left; and all was ahead that must be.
func TestRunsThatEnd(t *testing.T) {
	for seed := range 60 {
		d := dice(seed + 1000)
		g, m := graph.New(), &model{}
		var all []api.Patch
		for len(all) < 30 {
			p := d.patch(m, 1+seed%4)
			if id, e := g.Add(p); e == api.OK {
				m.add(p)
				p.Id = id
				all = append(all, p)
			}
		}
		written, stable := map[int]int{}, map[int]int{}
		for len(g.All()) > 0 {
			before := len(written)
			for _, at := range g.Sectors() {
				for _, id := range g.Ready(at) {
					if d.below(2) == 0 || g.Write(id) != api.OK {
						continue
					}
					closed(t, all, all[id-1], written, stable)
					written[id] = 1
				}
			}
			if len(written) == before && len(g.Written()) == 0 {
				var l []int
				for _, at := range g.Sectors() {
					l = append(l, g.Ready(at)...)
				}
				if len(l) == 0 {
					t.Fatalf("seed %d: nothing is written, and nothing is ready of %v", seed, g.All())
				}
			}
			if d.below(2) == 0 {
				for _, id := range g.Written() {
					stable[id] = 1
				}
				g.SettleAll()
			}
		}
		if len(stable) != len(all) {
			t.Fatalf("seed %d: %d of %d are stable", seed, len(stable), len(all))
		}
	}
}

// closed is 14.4 of p, which was just written.
func closed(t *testing.T, all []api.Patch, p api.Patch, written, stable map[int]int) {
	t.Helper()
	for _, n := range p.Needs {
		if stable[n] == 0 {
			t.Fatalf("patch %d is written, and %d, which it needs, is not stable", p.Id, n)
		}
	}
	for _, q := range all[:p.Id-1] {
		if meet(p, q) && written[q.Id] == 0 {
			t.Fatalf("patch %d is written, and %d, which it meets, is not", p.Id, q.Id)
		}
	}
}
