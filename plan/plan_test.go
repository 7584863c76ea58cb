package plan_test

import (
	"math"
	"slices"
	"testing"

	"scupper/api"
	"scupper/graph"
	"scupper/plan"
)

// put is a graph's next patch: of one byte, at a place of a sector.
func put(t *testing.T, g *graph.Graph, at, off int, needs ...int) int {
	t.Helper()
	id, e := g.Add(api.Patch{At: at, Off: off, Data: []byte{byte(at + 1)}, Kind: api.KindInode, Needs: needs})
	if e != api.OK {
		t.Fatalf("Add: %v", e)
	}
	return id
}

func batch(forced bool, sectors ...int) plan.Batch {
	return plan.Batch{Sectors: sectors, Forced: forced}
}

func alike(a, b plan.Batch) bool {
	return a.Forced == b.Forced && slices.Equal(a.Sectors, b.Sectors)
}

func sameNext(t *testing.T, g *graph.Graph, ids []int, want plan.Batch) {
	t.Helper()
	if b, is := plan.Next(g, ids...); !is || !alike(b, want) {
		t.Errorf("Next of %v: %v, %v, want %v, true", ids, b, is, want)
	}
}

func noNext(t *testing.T, g *graph.Graph, ids ...int) {
	t.Helper()
	if b, is := plan.Next(g, ids...); is || len(b.Sectors) != 0 || b.Forced {
		t.Errorf("Next of %v: %v, %v, want none, false", ids, b, is)
	}
	if l := plan.Batches(g, ids...); len(l) != 0 {
		t.Errorf("Batches of %v: %v, want none", ids, l)
	}
}

func sameBatches(t *testing.T, g *graph.Graph, ids []int, want ...plan.Batch) {
	t.Helper()
	if l := plan.Batches(g, ids...); !slices.EqualFunc(l, want, alike) {
		t.Errorf("Batches of %v: %v, want %v", ids, l, want)
	}
}

func sameList(t *testing.T, what string, got []int, want ...int) {
	t.Helper()
	if !slices.Equal(got, want) {
		t.Errorf("%s: %v, want %v", what, got, want)
	}
}

func sameCost(t *testing.T, want plan.Price, l ...plan.Batch) {
	t.Helper()
	if p := plan.Cost(l); p != want {
		t.Errorf("Cost of %v: %v, want %v", l, p, want)
	}
}

// 16.1, 16.2: the chapter's example, and its batches carried out.
func TestExample(t *testing.T) {
	g := graph.New()
	put(t, g, 3, 0)
	put(t, g, 4, 0, 1)
	l := []plan.Batch{batch(true, 3), batch(true, 4)}
	sameBatches(t, g, []int{2}, l...)
	sameBatches(t, g, []int{1}, l[0])
	sameCost(t, plan.Price{Forces: 2}, l...)
	sameNext(t, g, []int{2}, l[0])
	sameList(t, "written", plan.Carry(g, l[0]), 1)
	sameList(t, "left", g.All(), 2)
	noNext(t, g, 1)
	sameNext(t, g, []int{2}, l[1])
	sameList(t, "written", plan.Carry(g, l[1]), 2)
	sameList(t, "left", g.All())
	noNext(t, g, 1, 2)
}

// 16.1: sectors rise, in whatever order the patches and the numbers come, and each is there once.
func TestSectorsRise(t *testing.T) {
	g := graph.New()
	var ids []int
	for _, at := range []int{2047, 9, 30, 0, 9, 100, 30, 2} {
		ids = append(ids, put(t, g, at, len(ids)))
	}
	want := batch(false, 0, 2, 9, 30, 100, 2047)
	sameNext(t, g, ids, want)
	slices.Reverse(ids)
	sameNext(t, g, ids, want)
	sameBatches(t, g, append(ids, ids...), want)
	sameNext(t, g, []int{8, 1, 2}, batch(false, 2, 9, 2047))
}

// 16.1: a sector with a ready patch that is not needed is none of the batch, nor is one with a needed patch that is not ready.
func TestReadyAndNeeded(t *testing.T) {
	g := graph.New()
	put(t, g, 5, 0)       // 1
	put(t, g, 6, 0, 1)    // 2: needed, and not ready
	put(t, g, 6, 9)       // 3: ready, and not needed
	put(t, g, 7, 0)       // 4: the same, of a sector of its own
	put(t, g, 8, 0, 2)    // 5
	put(t, g, 8, 0)       // 6: it meets 5
	put(t, g, 8, 9)       // 7: it meets none
	put(t, g, 5, 20, 3)   // 8: of the first one's sector, not ready
	put(t, g, 9, 0, 4, 7) // 9
	sameBatches(t, g, []int{2}, batch(true, 5), batch(true, 6))
	sameBatches(t, g, []int{6}, batch(true, 5), batch(true, 6), batch(true, 8))
	sameBatches(t, g, []int{7}, batch(true, 8))
	sameBatches(t, g, []int{8}, batch(true, 6), batch(true, 5))
	sameBatches(t, g, []int{9}, batch(false, 7, 8), batch(true, 9))
	sameBatches(t, g, []int{6, 9}, batch(false, 5, 7, 8), batch(false, 6, 9), batch(true, 8))
}

// 16.2: all that is ready of the batch's sectors is written, whether it is needed or not, and nothing of others.
func TestCarryWritesAllThatIsReady(t *testing.T) {
	g := graph.New()
	put(t, g, 6, 0)    // 1
	put(t, g, 4, 0)    // 2
	put(t, g, 6, 0)    // 3: behind 1
	put(t, g, 6, 5)    // 4: not needed
	put(t, g, 6, 7, 2) // 5: not ready
	put(t, g, 6, 7)    // 6: it meets 5
	put(t, g, 5, 0)    // 7: of another sector
	b, _ := plan.Next(g, 3)
	if want := batch(true, 6); !alike(b, want) {
		t.Fatalf("Next: %v, want %v", b, want)
	}
	sameList(t, "written", plan.Carry(g, b), 1, 3, 4)
	sameList(t, "left", g.All(), 2, 5, 6, 7)
	sameList(t, "written and not stable", g.Written())
}

// 16.2: sector by sector, as the batch has them, and in each one by rising numbers; what the ones ahead wrote is not stable until all are written.
func TestCarryInOrder(t *testing.T) {
	g := graph.New()
	put(t, g, 7, 0)    // 1
	put(t, g, 5, 0)    // 2
	put(t, g, 7, 1)    // 3
	put(t, g, 5, 1)    // 4
	put(t, g, 7, 2, 2) // 5: what it needs is written ahead of its sector's turn, and not stable then
	b, _ := plan.Next(g, 1, 2)
	if want := batch(false, 5, 7); !alike(b, want) {
		t.Fatalf("Next: %v, want %v", b, want)
	}
	sameList(t, "written", plan.Carry(g, b), 2, 4, 1, 3)
	sameList(t, "left", g.All(), 5)
	sameNext(t, g, []int{5}, batch(true, 7))
}

// 16.1: what was written ahead: of the batch's own sector it is forced all the same, of another one a flush ends it.
func TestForced(t *testing.T) {
	g := graph.New()
	put(t, g, 5, 0) // 1
	put(t, g, 5, 1) // 2
	put(t, g, 7, 0) // 3
	put(t, g, 7, 1) // 4
	g.Write(1)
	sameNext(t, g, []int{2}, batch(true, 5))
	sameNext(t, g, []int{4}, batch(false, 7))
	sameNext(t, g, []int{2, 4}, batch(false, 5, 7))
	sameBatches(t, g, []int{2}, batch(true, 5))
	g.Write(3)
	sameNext(t, g, []int{2}, batch(false, 5))
	sameNext(t, g, []int{4}, batch(false, 7))
	g.Settle(5)
	sameNext(t, g, []int{2}, batch(false, 5))
	sameNext(t, g, []int{4}, batch(true, 7))
}

// 16.1, 16.2: once a flush made stable what was written ahead, the batches behind it are forced.
func TestWrittenAheadSettles(t *testing.T) {
	g := graph.New()
	put(t, g, 5, 0)    // 1
	put(t, g, 7, 0)    // 2
	put(t, g, 8, 0, 2) // 3
	g.Write(1)
	l := []plan.Batch{batch(false, 7), batch(true, 8)}
	sameBatches(t, g, []int{3}, l...)
	sameCost(t, plan.Price{Writes: 1, Forces: 1, Flushes: 1}, l...)
	sameList(t, "written", plan.Carry(g, l[0]), 2)
	sameList(t, "left", g.All(), 3)
}

// 16.1, 16.2: what is written and not stable is needed still; its batch has no sector, writes nothing, and a flush ends it.
func TestNoSector(t *testing.T) {
	g := graph.New()
	put(t, g, 5, 0)
	put(t, g, 5, 1)
	put(t, g, 6, 0, 1)
	g.Write(1)
	sameNext(t, g, []int{1}, batch(false))
	sameBatches(t, g, []int{1}, batch(false))
	sameBatches(t, g, []int{3}, batch(false), batch(true, 6))
	sameCost(t, plan.Price{Forces: 1, Flushes: 1}, batch(false), batch(true, 6))
	sameList(t, "written", plan.Carry(g, plan.Batch{}))
	sameList(t, "left", g.All(), 2, 3)
	sameList(t, "written and not stable", g.Written())
	noNext(t, g, 1)
}

// 16.1: no numbers, numbers that no patch in the graph has, an empty graph, and one that is none.
func TestNothing(t *testing.T) {
	wrong := []int{math.MinInt, -1, 0, 5, math.MaxInt}
	g := graph.New()
	for i := range 4 {
		put(t, g, i, 0)
	}
	g.Write(2)
	g.Settle(1)
	for _, h := range []*graph.Graph{g, graph.New(), nil} {
		noNext(t, h)
		noNext(t, h, wrong...)
		noNext(t, h, 2)
	}
	noNext(t, graph.New(), 1, 2, 3)
	noNext(t, nil, 1, 2, 3)
	sameBatches(t, g, append(wrong, 2, 3, 3), batch(true, 2))
}

// 16.2: of sectors that have no patch, or that there can't be, nothing is written; what is written settles all the same.
func TestCarryNothing(t *testing.T) {
	g := graph.New()
	put(t, g, 5, 0)
	put(t, g, 6, 0)
	put(t, g, 7, 0, 2)
	g.Write(1)
	odd := batch(true, math.MinInt, -1, 0, 4, 5, 7, 2047, 2048, math.MaxInt)
	sameList(t, "written", plan.Carry(g, odd))
	sameList(t, "left", g.All(), 2, 3)
	sameList(t, "written, of no graph", plan.Carry(nil, odd))
	sameList(t, "written, of an empty graph", plan.Carry(graph.New(), odd))
}

// 16.2: a batch that Next would not make: sectors that fall, and one twice; it says that it is forced, and all settles all the same.
func TestCarryOtherBatches(t *testing.T) {
	g := graph.New()
	put(t, g, 5, 0)    // 1
	put(t, g, 6, 0)    // 2
	put(t, g, 7, 0)    // 3
	put(t, g, 6, 0, 1) // 4
	sameList(t, "written", plan.Carry(g, batch(true, 7, 6, 5, 7, 6)), 3, 2, 1)
	sameList(t, "left", g.All(), 4)
	sameList(t, "written", plan.Carry(g, batch(false, 6)), 4)
	sameList(t, "left", g.All())
}

// 16.2: what batches cost: of none, of each sort, and of all together.
func TestCost(t *testing.T) {
	sameCost(t, plan.Price{})
	sameCost(t, plan.Price{Forces: 1}, batch(true, 9))
	sameCost(t, plan.Price{Writes: 1, Flushes: 1}, batch(false, 9))
	sameCost(t, plan.Price{Writes: 3, Flushes: 1}, batch(false, 1, 2, 3))
	sameCost(t, plan.Price{Flushes: 2}, batch(false), batch(false))
	sameCost(t, plan.Price{Writes: 6, Forces: 2, Flushes: 3},
		batch(false, 1, 2, 3), batch(true, 1), batch(false, 4, 5), batch(true, 4), batch(false, 1))
}

// 16.1, 16.2: nothing that was handed in is changed, and no answer is part of it, or of another one.
func TestOwn(t *testing.T) {
	g := graph.New()
	for i := range 6 {
		put(t, g, 10-i, 0)
	}
	put(t, g, 1, 0, 6, 2)
	was := g.Copy()
	ids := []int{7, 3, 99, 3, 1}
	b, _ := plan.Next(g, ids...)
	l := plan.Batches(g, ids...)
	for i := range b.Sectors {
		b.Sectors[i] = -1
	}
	b.Sectors = append(b.Sectors[:1], 2, 2, 2)
	for _, b := range l {
		clear(b.Sectors)
	}
	sameList(t, "the numbers", ids, 7, 3, 99, 3, 1)
	sameGraph(t, g, was)
	want := []plan.Batch{batch(false, 5, 8, 9, 10), batch(true, 1)}
	sameBatches(t, g, ids, want...)
	first := batch(false, 9, 5)
	plan.Cost([]plan.Batch{first})
	wrote := plan.Carry(g, first)
	sameList(t, "the batch", first.Sectors, 9, 5)
	sameList(t, "written", wrote, 2, 6)
	wrote[0] = 99
	sameBatches(t, g, ids, batch(false, 1, 8, 10))
}

// sameGraph holds all that a graph tells of its patches against another one.
func sameGraph(t *testing.T, g, was *graph.Graph) {
	t.Helper()
	sameList(t, "all", g.All(), was.All()...)
	sameList(t, "written and not stable", g.Written(), was.Written()...)
	sameList(t, "sectors", g.Sectors(), was.Sectors()...)
	for _, id := range was.All() {
		p, e := g.Get(id)
		q, _ := was.Get(id)
		if e != api.OK || p.At != q.At || p.Off != q.Off || p.Kind != q.Kind || p.Written != q.Written || !slices.Equal(p.Data, q.Data) || !slices.Equal(p.Needs, q.Needs) {
			t.Errorf("patch %d: %v, %v, want %v", id, p, e, q)
		}
		sameList(t, "needed", g.Needed(id), was.Needed(id)...)
	}
	for _, at := range was.Sectors() {
		sameList(t, "ready", g.Ready(at), was.Ready(at)...)
	}
	p := api.Patch{Data: []byte{1}}
	id, _ := g.Copy().Add(p)
	want, _ := was.Copy().Add(p)
	if id != want {
		t.Errorf("the next number: %d, want %d", id, want)
	}
}
