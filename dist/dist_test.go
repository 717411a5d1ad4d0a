package dist_test

import (
	"math"
	"slices"
	"testing"

	"clearway/api"
	"clearway/dist"
)

// wantLabels fails the test if the labels of g are others than those that are given for each vertex, in order.
func wantLabels(t *testing.T, g api.Graph, want ...[]int) {
	t.Helper()
	l, e := dist.Labels(g)
	if e != api.OK || len(l) != len(g.Vertices) || len(l) != len(want) {
		t.Fatalf("Labels(%+v) = %v, %d", g, l, e)
	}
	for i, x := range l {
		if x.ID != g.Vertices[i].ID || !slices.Equal(x.Label, want[i]) {
			t.Errorf("Labels(%+v) of %d = %v; want %v", g, x.ID, x.Label, want[i])
		}
	}
}

// wantDistance fails the test if Distance says something else.
func wantDistance(t *testing.T, g api.Graph, depot, v, state, distance int) {
	t.Helper()
	if s, d, e := dist.Distance(g, depot, v); s != state || d != distance || e != api.OK {
		t.Errorf("Distance(%+v, %d, %d) = %d, %d, %d; want %d, %d", g, depot, v, s, d, e, state, distance)
	}
}

// wantPath fails the test if Path returns something else, or Cycle anything.
func wantPath(t *testing.T, g api.Graph, depot, v int, want ...int) {
	t.Helper()
	if l, e := dist.Path(g, depot, v); e != api.OK || !slices.Equal(l, want) {
		t.Errorf("Path(%+v, %d, %d) = %v, %d; want %v", g, depot, v, l, e, want)
	}
	if l, e := dist.Cycle(g, depot, v); e != api.ErrDist || len(l) != 0 {
		t.Errorf("Cycle(%+v, %d, %d) = %v, %d", g, depot, v, l, e)
	}
}

// wantCycle fails the test if Cycle returns something else, or Path anything.
func wantCycle(t *testing.T, g api.Graph, depot, v int, want ...int) {
	t.Helper()
	if l, e := dist.Cycle(g, depot, v); e != api.OK || !slices.Equal(l, want) {
		t.Errorf("Cycle(%+v, %d, %d) = %v, %d; want %v", g, depot, v, l, e, want)
	}
	if l, e := dist.Path(g, depot, v); e != api.ErrDist || len(l) != 0 {
		t.Errorf("Path(%+v, %d, %d) = %v, %d", g, depot, v, l, e)
	}
}

// wantNothing fails the test if one of the calls returns something but an error.
func wantNothing(t *testing.T, g api.Graph, depot, v int) {
	t.Helper()
	s, d, e := dist.Distance(g, depot, v)
	p, f := dist.Path(g, depot, v)
	c, h := dist.Cycle(g, depot, v)
	if s != 0 || d != 0 || len(p) != 0 || len(c) != 0 || e != api.ErrDist || f != api.ErrDist || h != api.ErrDist {
		t.Fatalf("%d and %d of %+v: %d, %d, %v, %v, %d, %d, %d", depot, v, g, s, d, p, c, e, f, h)
	}
}

// The examples of the chapter.
func TestExamples(t *testing.T) {
	g := example(0)
	wantDistance(t, g, 0, 1, 1, 3)
	wantDistance(t, g, 0, 0, 1, 0)
	wantDistance(t, g, 0, 3, 0, 0)
	wantLabels(t, g, []int{1, 0, -1, 0, 0, -1, 0, 0, 0}, []int{1, 1, 0, 3, 2, 2, 0, 0, 0}, []int{1, 1, 1, 1, 1, 1, 0, 0, 0}, make([]int, 9))
	wantPath(t, g, 0, 1, 1, 2)
	g = example(-1)
	wantLabels(t, g, []int{1, 0, -1, 0, 0, -1, 0, 0, 0}, []int{2, 1, 0, 0, -1, 1, 0, 0, 3}, []int{1, 1, 1, 1, 1, 1, 0, 0, 0}, make([]int, 9))
	wantCycle(t, g, 0, 1, 3)
	wantDistance(t, g, 0, 1, 2, 0)
}

// P11.1: labels of all kinds of graphs, as the chapter defines them.
func TestLabels(t *testing.T) {
	states, lengths := map[int]int{}, map[int]int{}
	for _, g := range slices.Concat(samples(), small()) {
		want := modelOf(g)
		if l, e := dist.Labels(g); e != api.OK || text(l) != text(want) {
			t.Fatalf("Labels(%+v) = %v, %d; want %v", g, l, e, want)
		}
		for _, x := range want {
			for i := 0; i < len(x.Label); i += 9 {
				states[x.Label[i]]++
				if x.Label[i] == 2 {
					lengths[x.Label[i+6]]++
				}
			}
		}
	}
	if states[0] < 1000 || states[1] < 1000 || states[2] < 1000 {
		t.Error("too few blocks of some state:", states)
	}
	for n := range 4 {
		if lengths[n] < 15 {
			t.Error("too few vertices with this position on a cycle:", n, lengths)
		}
	}
}

// P11.1: without depots, labels are empty; with several, there is a block for each, in their order.
func TestDepots(t *testing.T) {
	l := []api.Edge{to(0, 4, 6, 5), to(1, 6, 8, -7)}
	ids := []int{4, 6, 8}
	wantLabels(t, graphOf(ids, nil, l...), nil, nil, nil)
	wantLabels(t, api.Graph{})
	wantLabels(t, graphOf(ids, []int{6}, l...), make([]int, 9), []int{1, 0, -1, 0, 0, -1, 0, 0, 0}, []int{1, 1, 1, -7, 1, 1, 0, 0, 0})
	wantLabels(t, graphOf(ids, ids, l...),
		[]int{1, 0, -1, 0, 0, -1, 0, 0, 0, 0, 0, 0, 0, 0, 0, 0, 0, 0, 0, 0, 0, 0, 0, 0, 0, 0, 0},
		[]int{1, 1, 0, 5, 1, 0, 0, 0, 0, 1, 0, -1, 0, 0, -1, 0, 0, 0, 0, 0, 0, 0, 0, 0, 0, 0, 0},
		[]int{1, 2, 1, -2, 2, 1, 0, 0, 0, 1, 1, 1, -7, 1, 1, 0, 0, 0, 1, 0, -1, 0, 0, -1, 0, 0, 0})
}

// P11.1: of walks with the same weight, those with the least number of steps count, and of their last edges the least one; whatever the least numbers of steps of all walks, and their edges, are.
func TestEqualWalks(t *testing.T) {
	// From 0 to 3: by 1 with the weight 2, by 2 with the weight 2, directly with the weight 3, and by 1 and 2 with the weight 2.
	g := graphOf([]int{0, 1, 2, 3}, []int{0}, to(2, 2, 3, 1), to(3, 1, 3, 1), to(4, 0, 3, 3), to(5, 0, 1, 1), to(6, 0, 2, 1), to(7, 1, 2, 0), to(1, 0, 3, 4))
	slices.SortFunc(g.Edges, func(a, b api.Edge) int { return a.ID - b.ID })
	wantLabels(t, g, []int{1, 0, -1, 0, 0, -1, 0, 0, 0}, []int{1, 1, 5, 1, 1, 5, 0, 0, 0}, []int{1, 1, 6, 1, 1, 6, 0, 0, 0}, []int{1, 1, 1, 2, 2, 2, 0, 0, 0})
	wantPath(t, g, 0, 3, 6, 2)
	// With more steps to 2, the edge 3 is the only one; and by more steps, 2 is reached by less.
	g.Edges[5] = to(6, 0, 2, 2)
	wantLabels(t, g, []int{1, 0, -1, 0, 0, -1, 0, 0, 0}, []int{1, 1, 5, 1, 1, 5, 0, 0, 0}, []int{1, 1, 6, 1, 2, 7, 0, 0, 0}, []int{1, 1, 1, 2, 2, 3, 0, 0, 0})
	wantPath(t, g, 0, 3, 5, 3)
	// Closed walks of the weight 0 make no walk shorter, nor do loops and the way back.
	g = graphOf([]int{0, 1, 2}, []int{1}, both(0, 0, 1, 0), both(1, 1, 1, 0), both(2, 1, 0, 0), to(3, 0, 2, -3), to(4, 2, 0, 3), to(5, 2, 2, 0))
	wantLabels(t, g, []int{1, 1, 0, 0, 1, 0, 0, 0, 0}, []int{1, 0, -1, 0, 0, -1, 0, 0, 0}, []int{1, 2, 3, -3, 2, 3, 0, 0, 0})
}

// P11.1: the greatest numbers of steps, and the greatest distances.
func TestLongWays(t *testing.T) {
	for _, w := range []int{1000, -1000} {
		g := graphOf(nil, []int{0})
		for id := range 24 {
			g.Vertices = append(g.Vertices, api.Vertex{ID: id})
			if id < 23 {
				g.Edges = append(g.Edges, to(39-id, id, id+1, w))
			}
		}
		slices.Reverse(g.Edges)
		wantDistance(t, g, 0, 23, 1, 23*w)
		l, e := dist.Labels(g)
		if must(t, e); !slices.Equal(l[23].Label, []int{1, 23, 17, 23 * w, 23, 17, 0, 0, 0}) {
			t.Error(l[23])
		}
		p, e := dist.Path(g, 0, 23)
		if must(t, e); len(p) != 23 || p[0] != 39 || p[22] != 17 {
			t.Error(p)
		}
	}
	l, e := dist.Labels(ring(-1000, -1000))
	must(t, e)
	if !slices.Equal(l[23].Label, []int{2, 23, 25, 23, 25, 0, 23, -23000, 26, 2, 16, 25, 23, 25, 0, 23, -23000, 26, 2, 0, -1, 23, 25, 0, 23, -23000, 26}) {
		t.Error(l[23])
	}
}

// P11.1: the anchor is the least vertex of the closed walks with the least number of steps, not of all that are negative.
func TestAnchors(t *testing.T) {
	// 0, 1 and 2 are on a closed walk of three steps, 5 and 3 on one of two, and 4 and 5 on another one.
	g := graphOf([]int{0, 1, 2, 3, 4, 5}, []int{0}, to(0, 0, 1, -9), to(1, 1, 2, -9), to(2, 2, 0, -9), to(3, 2, 5, 1), to(4, 5, 0, 1), to(5, 5, 4, -1), to(6, 4, 5, 0), to(7, 5, 3, 3), to(8, 3, 5, -4))
	wantLabels(t, g,
		[]int{2, 0, -1, 2, 4, -1, 0, 0, -1}, []int{2, 1, 0, 3, 0, -1, 0, 0, -1}, []int{2, 2, 1, 4, 1, -1, 0, 0, -1},
		[]int{2, 4, 7, 0, -1, 3, 0, 0, 8}, []int{2, 4, 5, 2, 5, -1, 0, 0, -1}, []int{2, 3, 3, 1, 8, 3, 1, -4, 7})
	wantCycle(t, g, 0, 1, 8, 7)
	// The walk by 3 is not negative any more.
	g.Edges[8].Weight = -3
	wantLabels(t, g,
		[]int{2, 0, -1, 2, 4, -1, 0, 0, -1}, []int{2, 1, 0, 3, 0, -1, 0, 0, -1}, []int{2, 2, 1, 4, 1, -1, 0, 0, -1},
		[]int{2, 4, 7, 2, 7, -1, 0, 0, -1}, []int{2, 4, 5, 0, -1, 4, 0, 0, 6}, []int{2, 3, 3, 1, 6, 4, 1, 0, 5})
	wantCycle(t, g, 0, 3, 6, 5)
	// Nor is the one by 4.
	g.Edges[5].Weight = 0
	wantLabels(t, g,
		[]int{2, 0, -1, 0, -1, 0, 0, 0, 0}, []int{2, 1, 0, 1, 0, 0, 1, -9, 1}, []int{2, 2, 1, 2, 1, 0, 2, -18, 2},
		[]int{2, 4, 7, 4, 7, -1, 0, 0, -1}, []int{2, 4, 5, 4, 5, -1, 0, 0, -1}, []int{2, 3, 3, 3, 3, -1, 0, 0, -1})
	wantCycle(t, g, 0, 4, 0, 1, 2)
}

// P11.1: of the closed walks with the least number of steps from the anchor, the first one is taken, as edges count from the anchor on; also if another one weighs less.
func TestFirstCycles(t *testing.T) {
	ids := []int{0, 1, 2, 3}
	g := graphOf(ids, []int{3}, to(0, 0, 1, 5), to(1, 0, 2, -1), to(2, 1, 0, -5), to(3, 2, 0, -1), to(4, 0, 1, -3), to(5, 1, 0, -9), to(6, 3, 0, 0))
	wantCycle(t, g, 3, 0, 0, 5)
	g.Edges[5].Weight = -5
	wantCycle(t, g, 3, 0, 1, 3)
	g.Edges[1].Weight = 1
	wantCycle(t, g, 3, 2, 4, 2)
	g.Edges[2].Weight = 3
	wantCycle(t, g, 3, 1, 4, 5)
	// Undirected edges of negative weight lead there and back, over themselves or parallel ones; a loop is enough.
	g = graphOf(ids, []int{0}, both(3, 2, 0, -1), both(7, 0, 2, 0), both(9, 2, 1, 4))
	wantCycle(t, g, 0, 1, 3, 3)
	wantLabels(t, g, []int{2, 0, -1, 0, -1, 0, 0, 0, 3}, []int{2, 2, 9, 2, 9, -1, 0, 0, -1}, []int{2, 1, 3, 1, 3, 0, 1, -1, 3}, make([]int, 9))
	g.Edges = append(g.Edges, both(10, 1, 1, -1), to(11, 1, 1, -2))
	wantCycle(t, g, 0, 2, 10)
	wantLabels(t, g, []int{2, 0, -1, 2, 3, -1, 0, 0, -1}, []int{2, 2, 9, 0, -1, 1, 0, 0, 10}, []int{2, 1, 3, 1, 9, -1, 0, 0, -1}, make([]int, 9))
}

// P11.1: several negative classes, each with its anchor, of which those count that can be reached from the depot.
func TestSeveralClasses(t *testing.T) {
	g := graphOf([]int{0, 1, 2, 3, 4, 5, 6}, []int{1, 3, 5}, to(0, 0, 0, -1), to(1, 0, 1, 1), to(2, 1, 2, 1), to(3, 2, 3, 7), to(4, 3, 4, -2), to(5, 4, 3, 1), to(6, 4, 5, 0), to(7, 1, 5, -7), to(8, 5, 6, 1), to(9, 6, 6, -1))
	wantLabels(t, g,
		make([]int, 27),
		[]int{1, 0, -1, 0, 0, -1, 0, 0, 0, 0, 0, 0, 0, 0, 0, 0, 0, 0, 0, 0, 0, 0, 0, 0, 0, 0, 0},
		[]int{1, 1, 2, 1, 1, 2, 0, 0, 0, 0, 0, 0, 0, 0, 0, 0, 0, 0, 0, 0, 0, 0, 0, 0, 0, 0, 0},
		[]int{2, 2, 3, 0, -1, 3, 0, 0, 4, 2, 0, -1, 0, -1, 3, 0, 0, 4, 0, 0, 0, 0, 0, 0, 0, 0, 0},
		[]int{2, 3, 4, 1, 4, 3, 1, -2, 5, 2, 1, 4, 1, 4, 3, 1, -2, 5, 0, 0, 0, 0, 0, 0, 0, 0, 0},
		[]int{2, 1, 7, 2, 6, -1, 0, 0, -1, 2, 2, 6, 2, 6, -1, 0, 0, -1, 1, 0, -1, 0, 0, -1, 0, 0, 0},
		[]int{2, 2, 8, 0, -1, 6, 0, 0, 9, 2, 3, 8, 0, -1, 6, 0, 0, 9, 2, 1, 8, 0, -1, 6, 0, 0, 9})
	wantCycle(t, g, 1, 5, 4, 5)
	wantCycle(t, g, 1, 6, 9)
	wantPath(t, g, 5, 5)
	wantNothing(t, g, 5, 7)
	wantNothing(t, g, 0, 1)
}

// P11.1: Distance, Path and Cycle of all depots and vertices, and of other numbers.
func TestDistancesPathsAndCycles(t *testing.T) {
	for _, g := range slices.Concat(samples()[:200], fewer()) {
		cycles := cyclesOf(g)
		for s := -1; s < 25; s++ {
			if !slices.Contains(g.Depots, s) {
				wantNothing(t, g, s, s)
				wantNothing(t, g, s, 0)
				continue
			}
			b := blocksFor(g, s, cycles)
			for v := -1; v < 25; v++ {
				x, known := b[v]
				switch {
				case !known:
					wantNothing(t, g, s, v)
				case x[0] == 0:
					wantDistance(t, g, s, v, 0, 0)
					if p, e := dist.Path(g, s, v); e != api.ErrDist || len(p) != 0 {
						t.Fatal(p, e)
					}
					if c, e := dist.Cycle(g, s, v); e != api.ErrDist || len(c) != 0 {
						t.Fatal(c, e)
					}
				case x[0] == 1:
					wantDistance(t, g, s, v, 1, x[3])
					wantPath(t, g, s, v, pathIn(t, g, b, v)...)
				default:
					wantDistance(t, g, s, v, 2, 0)
					wantCycle(t, g, s, v, cycleFrom(t, g, b, cycles, v)...)
				}
			}
		}
		for _, n := range []int{math.MinInt, -1 << 32, 1 << 32, math.MaxInt} {
			wantNothing(t, g, n, n)
			wantNothing(t, g, n, g0(g))
			wantNothing(t, g, g0(g), n)
		}
	}
}

// g0 returns the first depot of g, or 0.
func g0(g api.Graph) int {
	if len(g.Depots) == 0 {
		return 0
	}
	return g.Depots[0]
}

// arcBy returns the step to the vertex v by the edge with the number id.
func arcBy(t *testing.T, g api.Graph, v, id int) arc {
	t.Helper()
	for _, a := range arcsOf(g.Edges) {
		if a.to == v && a.edge == id {
			return a
		}
	}
	t.Fatalf("the edge %d does not lead to %d in %+v", id, v, g)
	return arc{}
}

// pathIn returns the edges that lead from a depot to the vertex v, by the blocks b.
func pathIn(t *testing.T, g api.Graph, b map[int][]int, v int) []int {
	t.Helper()
	if b[v][4] == 0 {
		return nil
	}
	a := arcBy(t, g, v, b[v][5])
	return append(pathIn(t, g, b, a.from), a.edge)
}

// cycleFrom returns the edges of that one of the cycles to whose anchor the edges of the blocks b lead back from the vertex v.
func cycleFrom(t *testing.T, g api.Graph, b map[int][]int, cycles [][]arc, v int) []int {
	t.Helper()
	for b[v][3] > 0 {
		v = arcBy(t, g, v, b[v][4]).from
	}
	for _, c := range cycles {
		if c[0].from != v {
			continue
		}
		var l []int
		for _, a := range c {
			l = append(l, a.edge)
		}
		return l
	}
	t.Fatalf("no cycle from %d in %+v", v, g)
	return nil
}

// P11.1: nothing but errors for graphs that are not valid.
func TestGraphsThatAreNotValid(t *testing.T) {
	for _, g := range broken() {
		if l, e := dist.Labels(g); e != api.ErrDist || len(l) != 0 {
			t.Errorf("Labels(%+v) = %v, %d", g, l, e)
		}
		for s := -1; s < 26; s++ {
			for v := -1; v < 26; v++ {
				wantNothing(t, g, s, v)
			}
		}
	}
}
