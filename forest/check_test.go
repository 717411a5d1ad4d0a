package forest_test

import (
	"math"
	"math/rand"
	"slices"
	"testing"

	"clearway/api"
	"clearway/forest"
)

// wantView fails the test if Good or Count of v differ from the reference. It returns whether v is good.
func wantView(t *testing.T, v api.View) bool {
	t.Helper()
	good, count := forest.Good(v), forest.Count(v)
	if good != isGood(v) || count != countOf(v) {
		t.Fatalf("%+v: %v, %d", v, good, count)
	}
	return good
}

// middle returns a good view of the vertex 5, which has the depth 2: with edges downwards and upwards, two of these parallel, to a vertex of its own depth, and a loop.
func middle() api.View {
	return api.View{
		Vertex: api.Vertex{ID: 5},
		Edges:  []api.Edge{{ID: 0, From: 5, To: 9}, {ID: 3, From: 5, To: 5}, {ID: 4, From: 7, To: 5}, {ID: 8, From: 2, To: 5}, {ID: 9, From: 5, To: 2}, {ID: 39, From: 3, To: 5}},
		Labels: []api.Named{{ID: 2, Label: []int{1, 1, 30}}, {ID: 3, Label: []int{1, 1, 31}}, {ID: 5, Label: []int{1, 2, 8}}, {ID: 7, Label: []int{1, 2, 32}}, {ID: 9, Label: []int{1, 3, 0}}},
	}
}

// top returns a good view of the root 5, with a loop and edges to two vertices.
func top() api.View {
	return api.View{
		Vertex: api.Vertex{ID: 5},
		Edges:  []api.Edge{{ID: 3, From: 5, To: 5}, {ID: 4, From: 7, To: 5}, {ID: 8, From: 5, To: 9}},
		Labels: []api.Named{{ID: 5, Label: []int{5, 0, -1}}, {ID: 7, Label: []int{5, 1, 4}}, {ID: 9, Label: []int{5, 1, 8}}},
	}
}

// variant is a view, what is changed in it, and whether it is good then.
type variant struct {
	from func() api.View
	f    func(v *api.View)
	good bool
}

// wantVariants fails the test if Good says something else of one of l.
func wantVariants(t *testing.T, l ...variant) {
	t.Helper()
	for i, c := range l {
		v := c.from()
		c.f(&v)
		if good := wantView(t, v); good != c.good {
			t.Errorf("%d: %+v: %v", i, v, good)
		}
	}
}

// P7.1: what no condition looks at does not matter.
func TestNotLookedAt(t *testing.T) {
	wantVariants(t,
		variant{middle, func(v *api.View) {}, true},
		variant{top, func(v *api.View) {}, true},
		variant{middle, func(v *api.View) { v.Vertex.Side = 77 }, true},
		variant{middle, func(v *api.View) { v.Depots = []int{9, 9, -4, 99, 5} }, true},
		variant{middle, func(v *api.View) { v.Edges[0].Cap = -1; v.Edges[1].Cap = math.MaxInt }, true},
		variant{middle, func(v *api.View) { v.Edges[0].Directed = true; v.Edges[2].Directed = true }, true},
		variant{middle, func(v *api.View) { v.Labels[0].Label[2] = math.MinInt }, true},
		variant{middle, func(v *api.View) { v.Labels = append(v.Labels, api.Named{ID: 4, Label: []int{9}}, api.Named{ID: -1}) }, true},
		variant{middle, func(v *api.View) { slices.Reverse(v.Labels) }, true},
	)
}

// P7.1: the edges of a view.
func TestEdgesOfViews(t *testing.T) {
	wantVariants(t,
		variant{middle, func(v *api.View) { v.Edges[5].ID = 40 }, false},
		variant{middle, func(v *api.View) { v.Edges[0].ID = -1 }, false},
		variant{middle, func(v *api.View) { v.Edges[0].ID = math.MinInt }, false},
		variant{middle, func(v *api.View) { v.Edges[1].ID = 4 }, false},
		variant{middle, func(v *api.View) { v.Edges[1].ID = 5 }, false},
		variant{middle, func(v *api.View) { v.Edges[0], v.Edges[1] = v.Edges[1], v.Edges[0] }, false},
		variant{middle, func(v *api.View) { v.Edges[0].Weight = 1000; v.Edges[1].Weight = -1000 }, true},
		variant{middle, func(v *api.View) { v.Edges[0].Weight = 1001 }, false},
		variant{middle, func(v *api.View) { v.Edges[5].Weight = -1001 }, false},
		variant{middle, func(v *api.View) { v.Edges[5].Weight = math.MinInt }, false},
		variant{middle, func(v *api.View) { v.Edges[0].From = 9 }, false},
		variant{middle, func(v *api.View) { v.Edges[0].From = 7 }, false},
		variant{middle, func(v *api.View) { v.Edges[0].To = 24; v.Labels[4].ID = 24 }, false},
		variant{middle, func(v *api.View) { v.Edges[0].To = -1; v.Labels[4].ID = -1 }, false},
		variant{middle, func(v *api.View) { v.Edges[0].To = 23; v.Labels[4].ID = 23 }, true},
		variant{middle, func(v *api.View) { v.Edges[0].To = 0; v.Labels[4].ID = 0 }, true},
		variant{middle, func(v *api.View) { v.Edges = v.Edges[:3] }, false},
		variant{top, func(v *api.View) { v.Edges = nil }, true},
	)
}

// P7.1: the labels that must be there.
func TestLabelsOfViews(t *testing.T) {
	wantVariants(t,
		variant{middle, func(v *api.View) { v.Labels = v.Labels[1:] }, false},
		variant{middle, func(v *api.View) { v.Labels = v.Labels[:4] }, false},
		variant{middle, func(v *api.View) { v.Labels = slices.Delete(v.Labels, 2, 3) }, false},
		variant{middle, func(v *api.View) { v.Labels[4].Label = []int{1, 3} }, false},
		variant{middle, func(v *api.View) { v.Labels[4].Label = []int{1, 3, 0, 0} }, false},
		variant{middle, func(v *api.View) { v.Labels[2].Label = []int{1, 2} }, false},
		variant{middle, func(v *api.View) { v.Labels[2].Label = []int{1, 2, 8, 0} }, false},
		variant{middle, func(v *api.View) { v.Labels[2].Label = nil }, false},
		variant{middle, func(v *api.View) { v.Labels = nil }, false},
	)
}

// P7.1: of several labels of a vertex, the first one counts, whatever it has.
func TestSeveralLabels(t *testing.T) {
	wantVariants(t,
		variant{middle, func(v *api.View) {
			v.Labels = append(v.Labels, api.Named{ID: 5, Label: []int{5, 0, -1}}, api.Named{ID: 9})
		}, true},
		variant{middle, func(v *api.View) { v.Labels = slices.Insert(v.Labels, 0, api.Named{ID: 9}) }, false},
		variant{middle, func(v *api.View) { v.Labels = slices.Insert(v.Labels, 0, api.Named{ID: 5, Label: []int{1, 2}}) }, false},
		variant{middle, func(v *api.View) { v.Labels = slices.Insert(v.Labels, 0, api.Named{ID: 5, Label: []int{1, 2, 4}}) }, false},
		variant{middle, func(v *api.View) { v.Labels = append(v.Labels, api.Named{ID: 5, Label: []int{1, 2}}) }, true},
	)
}

// P7.1: the roots.
func TestRoots(t *testing.T) {
	wantVariants(t,
		variant{middle, func(v *api.View) { v.Labels[0].Label[0] = 0 }, false},
		variant{middle, func(v *api.View) { v.Labels[4].Label[0] = 2 }, false},
		variant{middle, func(v *api.View) { setRoots(v, 0) }, true},
		variant{middle, func(v *api.View) { setRoots(v, 4) }, true},
		variant{middle, func(v *api.View) { setRoots(v, 5) }, false},
		variant{middle, func(v *api.View) { setRoots(v, 6) }, false},
		variant{middle, func(v *api.View) { setRoots(v, -1) }, false},
		variant{middle, func(v *api.View) { setRoots(v, math.MinInt) }, false},
		variant{top, func(v *api.View) { setRoots(v, 4) }, false},
		variant{top, func(v *api.View) { setRoots(v, 6) }, false},
	)
}

// P7.1: the depths.
func TestDepths(t *testing.T) {
	wantVariants(t,
		variant{top, func(v *api.View) { v.Labels[0].Label[1] = 1 }, false},
		variant{middle, func(v *api.View) { deeper(v, -1) }, true},
		variant{middle, func(v *api.View) { deeper(v, -2) }, false},
		variant{middle, func(v *api.View) { deeper(v, -3) }, false},
		variant{middle, func(v *api.View) { deeper(v, 1) }, true},
		variant{middle, func(v *api.View) { deeper(v, math.MaxInt-3) }, true},
		variant{top, func(v *api.View) { v.Labels[0].Label[1] = -1 }, false},
		variant{middle, func(v *api.View) { v.Labels[2].Label[1] = -1 }, false},
		variant{middle, func(v *api.View) { v.Labels[2].Label[1] = 0; v.Labels[2].Label[2] = -1 }, false},
		variant{middle, func(v *api.View) { v.Labels[2].Label[1] = 3 }, false},
		variant{middle, func(v *api.View) { v.Labels[2].Label[1] = 3; v.Labels[2].Label[2] = 4 }, false},
		variant{middle, func(v *api.View) { v.Labels[2].Label[1] = 1 }, false},
		variant{middle, func(v *api.View) { v.Labels[2].Label[1] = math.MinInt }, false},
		variant{middle, func(v *api.View) { v.Labels[4].Label[1] = 0 }, false},
		variant{middle, func(v *api.View) { v.Labels[4].Label[1] = -1 }, false},
		variant{middle, func(v *api.View) { v.Labels[4].Label[1] = math.MinInt }, false},
		variant{middle, func(v *api.View) { v.Labels[4].Label[1] = math.MaxInt }, true},
		variant{top, func(v *api.View) { v.Labels[1].Label[1] = 0 }, true},
		variant{top, func(v *api.View) { v.Labels[1].Label[1] = -1 }, true},
		variant{top, func(v *api.View) { v.Labels[1].Label[1] = -2 }, false},
		variant{top, func(v *api.View) { v.Labels[1].Label[1] = 50 }, true},
	)
}

// P7.1: the edge of the label.
func TestEdgeUpwards(t *testing.T) {
	wantVariants(t,
		variant{middle, func(v *api.View) { v.Labels[2].Label[2] = 9 }, false},
		variant{middle, func(v *api.View) { v.Labels[2].Label[2] = 39 }, false},
		variant{middle, func(v *api.View) { v.Labels[2].Label[2] = 0 }, false},
		variant{middle, func(v *api.View) { v.Labels[2].Label[2] = 3 }, false},
		variant{middle, func(v *api.View) { v.Labels[2].Label[2] = -1 }, false},
		variant{middle, func(v *api.View) { v.Labels[4].Label[1] = 1 }, false},
		variant{middle, func(v *api.View) { v.Labels[4].Label[1] = 1; v.Labels[2].Label[2] = 0 }, true},
		variant{middle, func(v *api.View) { v.Labels[0].Label[1] = 2 }, false},
		variant{middle, func(v *api.View) { v.Labels[0].Label[1] = 2; v.Labels[2].Label[2] = 39 }, true},
		variant{middle, func(v *api.View) { v.Labels[0].Label[1] = 2; v.Labels[1].Label[1] = 2 }, false},
		variant{middle, func(v *api.View) {
			v.Labels[0].Label[1] = 2
			v.Labels[1].Label[1] = 2
			v.Labels[2].Label[2] = -1
		}, false},
		variant{top, func(v *api.View) { v.Labels[0].Label[2] = 3 }, false},
		variant{top, func(v *api.View) { v.Labels[0].Label[2] = -2 }, false},
		variant{top, func(v *api.View) { v.Labels[1].Label[1] = -1; v.Labels[0].Label[2] = 4 }, false},
	)
}

// P7.1: the number of the vertex.
func TestNumberOfTheVertex(t *testing.T) {
	wantVariants(t,
		variant{top, func(v *api.View) { renumber(v, 0) }, true},
		variant{top, func(v *api.View) { renumber(v, 23) }, true},
		variant{top, func(v *api.View) { renumber(v, 24) }, false},
		variant{top, func(v *api.View) { renumber(v, -1) }, false},
		variant{top, func(v *api.View) { renumber(v, 24); v.Edges = nil }, false},
		variant{top, func(v *api.View) { renumber(v, -1); v.Edges = nil }, false},
		variant{top, func(v *api.View) { v.Vertex.ID = 7 }, false},
	)
}

// setRoots gives all labels of v the root id.
func setRoots(v *api.View, id int) {
	for _, x := range v.Labels {
		x.Label[0] = id
	}
}

// deeper adds n to the depths of all labels of v.
func deeper(v *api.View, n int) {
	for _, x := range v.Labels {
		x.Label[1] += n
	}
}

// renumber gives the root 5 of v the number id everywhere.
func renumber(v *api.View, id int) {
	v.Vertex.ID, v.Labels[0].ID = id, id
	setRoots(v, id)
	for i, e := range v.Edges {
		if e.From == 5 {
			v.Edges[i].From = id
		}
		if e.To == 5 {
			v.Edges[i].To = id
		}
	}
}

// P7.1: roots are counted, whatever else is in the view.
func TestCount(t *testing.T) {
	for i, c := range []struct {
		id   int
		l    []api.Named
		want int
	}{
		{3, []api.Named{{ID: 3, Label: []int{9, 0, 7}}}, 1},
		{3, []api.Named{{ID: 4, Label: []int{4, 0, -1}}, {ID: 3, Label: []int{3, 0, -1}}}, 1},
		{3, []api.Named{{ID: 3, Label: []int{0, 1, 0}}}, 0},
		{3, []api.Named{{ID: 3, Label: []int{0, -1, 0}}}, 0},
		{3, []api.Named{{ID: 4, Label: []int{4, 0, -1}}}, 0},
		{3, []api.Named{{ID: 3, Label: []int{3, 0}}}, 0},
		{3, []api.Named{{ID: 3, Label: []int{3, 0, -1, 0}}}, 0},
		{3, []api.Named{{ID: 3}}, 0},
		{3, nil, 0},
		{3, []api.Named{{ID: 3, Label: []int{3, 0, -1}}, {ID: 3, Label: []int{3, 1, 5}}}, 1},
		{3, []api.Named{{ID: 3, Label: []int{3, 1, 5}}, {ID: 3, Label: []int{3, 0, -1}}}, 0},
		{3, []api.Named{{ID: 3}, {ID: 3, Label: []int{3, 0, -1}}}, 0},
		{-7, []api.Named{{ID: -7, Label: []int{math.MaxInt, 0, 0}}}, 1},
		{0, []api.Named{{ID: 1, Label: []int{1, 0, -1}}}, 0},
	} {
		v := api.View{Vertex: api.Vertex{ID: c.id}, Edges: []api.Edge{{ID: 90}}, Labels: c.l}
		if n := forest.Count(v); n != c.want || n != countOf(v) {
			t.Errorf("%d: %d", i, n)
		}
	}
}

// spoil changes something in v; one time out of three nothing that matters.
func spoil(r *rand.Rand, v *api.View) {
	n := []int{-1, 0, 1, 2, 3, 22, 23, 24, 39, 40, 1000, 1001, -1000, -1001, math.MinInt, math.MaxInt}[r.Intn(16)]
	if len(v.Edges) > 0 && r.Intn(3) == 0 {
		e := &v.Edges[r.Intn(len(v.Edges))]
		switch r.Intn(6) {
		case 0:
			e.ID = n
		case 1:
			e.From, e.To = e.To, e.From
		case 2:
			e.To = n
		case 3:
			e.Weight = n
		case 4:
			e.Cap, e.Directed = n, !e.Directed
		case 5:
			v.Edges = slices.Delete(v.Edges, 0, 1)
		}
		return
	}
	if len(v.Labels) == 0 || r.Intn(12) == 0 {
		v.Vertex.Side, v.Depots = n, []int{n}
		return
	}
	i := r.Intn(len(v.Labels))
	x := &v.Labels[i]
	switch k := r.Intn(10); k {
	case 0:
		v.Labels = slices.Delete(v.Labels, i, i+1)
	case 1:
		v.Labels = slices.Insert(v.Labels, i, api.Named{ID: r.Intn(24), Label: []int{r.Intn(3), r.Intn(3), r.Intn(3)}[:r.Intn(4)]})
	case 2:
		v.Labels = append(v.Labels, api.Named{ID: x.ID, Label: []int{n, n, n}})
	case 3:
		x.Label = append(x.Label, n)
	case 4:
		slices.Reverse(v.Labels)
	case 5:
		v.Vertex.ID = n
	default:
		if len(x.Label) > 0 {
			x.Label[r.Intn(len(x.Label))] += []int{1, -1, n}[r.Intn(3)]
		}
	}
}

// P7.1: views of random graphs in which something was changed.
func TestSpoiltViews(t *testing.T) {
	r := rand.New(rand.NewSource(3))
	good, bad := 0, 0
	for range 40000 {
		g := randomGraph(r)
		v := viewOf(g, modelOf(g).labels(g), g.Vertices[r.Intn(len(g.Vertices))].ID)
		if !wantView(t, v) {
			t.Fatalf("not good: %+v", v)
		}
		for range 1 + r.Intn(2) {
			spoil(r, &v)
		}
		if wantView(t, v) {
			good++
		} else {
			bad++
		}
	}
	if good < 5000 || bad < 5000 {
		t.Error("too few:", good, bad)
	}
}

// P7.1: walks, and what are none.
func TestCheckPath(t *testing.T) {
	g := example()
	for _, c := range []struct {
		a, b int
		path []int
		want bool
	}{
		{2, 3, []int{6}, true}, {3, 2, []int{6}, true}, {2, 3, []int{0, 4}, true}, {2, 3, []int{6, 6, 6}, true}, {2, 2, []int{0, 4, 6}, true},
		{2, 2, nil, true}, {5, 5, nil, true}, {5, 5, []int{7}, true}, {5, 5, []int{7, 7, 7}, true}, {0, 0, nil, true},
		{2, 3, nil, false}, {0, 5, nil, false}, {2, 3, []int{0}, false}, {2, 3, []int{4}, false}, {2, 3, []int{4, 0}, false}, {2, 3, []int{6, 7}, false},
		{2, 3, []int{7, 6}, false}, {2, 3, []int{1}, false}, {2, 3, []int{6, 1}, false}, {2, 3, []int{-1}, false}, {2, 3, []int{6, 40}, false}, {0, 0, []int{7}, false},
		{4, 4, nil, false}, {-1, -1, nil, false}, {24, 24, nil, false}, {5, 4, []int{7}, false}, {4, 5, []int{7}, false}, {2, math.MaxInt, []int{6}, false}, {math.MinInt, 3, []int{6}, false},
		{2, 2, slices.Repeat([]int{6}, 40), true}, {2, 3, slices.Repeat([]int{6}, 39), true}, {2, 3, slices.Repeat([]int{6}, 41), false}, {2, 2, slices.Repeat([]int{6}, 42), false}, {5, 5, slices.Repeat([]int{7}, 1<<16), false},
	} {
		if got := forest.CheckPath(g, c.a, c.b, c.path); got != c.want || got != isWalk(g, c.a, c.b, c.path) {
			t.Errorf("CheckPath of %d, %d, %v: %v", c.a, c.b, c.path, got)
		}
	}
}

// P7.1: sides, and what are none.
func TestCheckSide(t *testing.T) {
	g := example()
	for _, c := range []struct {
		a, b int
		side []int
		want bool
	}{
		{0, 5, []int{0}, true}, {0, 5, []int{0, 1, 2, 3}, true}, {5, 0, []int{5}, true}, {5, 0, []int{1, 2, 3, 5}, true}, {2, 0, []int{1, 2, 3}, true},
		{0, 5, nil, false}, {0, 5, []int{1, 2, 3}, false}, {0, 5, []int{0, 5}, false}, {0, 0, []int{0}, false}, {2, 0, []int{2}, false}, {2, 0, []int{2, 3}, false}, {2, 0, []int{1, 2}, false},
		{1, 2, []int{1, 3}, false}, {2, 0, []int{3, 2, 1}, false}, {2, 0, []int{1, 3, 2}, false}, {2, 0, []int{1, 2, 2, 3}, false}, {2, 0, []int{1, 1, 2, 3}, false}, {2, 0, []int{1, 2, 3, 3}, false},
		{0, 5, []int{0, 4}, false}, {0, 5, []int{0, 24}, false}, {0, 5, []int{-1, 0}, false}, {0, 5, []int{0, math.MaxInt}, false}, {0, 5, []int{math.MinInt, 0}, false},
		{4, 0, []int{1, 2, 3, 4}, false}, {4, 0, []int{5}, false}, {0, 4, []int{0}, false}, {0, -1, []int{0}, false}, {-1, 0, []int{-1}, false}, {0, 24, []int{0}, false}, {0, math.MaxInt, []int{0}, false},
		{0, 5, make([]int, 1<<16), false},
	} {
		if got := forest.CheckSide(g, c.a, c.b, c.side); got != c.want || got != isSide(g, c.a, c.b, c.side) {
			t.Errorf("CheckSide of %d, %d, %v: %v", c.a, c.b, c.side, got)
		}
	}
}

// P7.1: walks and sides of random graphs, right ones and others.
func TestChecksOfRandomGraphs(t *testing.T) {
	r := rand.New(rand.NewSource(4))
	walks, sides := map[bool]int{}, map[bool]int{}
	for range 20000 {
		g := randomGraph(r)
		a, b := g.Vertices[r.Intn(len(g.Vertices))].ID, r.Intn(24)
		var path []int
		at := a
		for range r.Intn(6) {
			if e := randomEdge(r, r.Intn(40), []int{at}); r.Intn(12) == 0 || len(g.Edges) == 0 {
				path = append(path, e.ID)
				continue
			}
			for _, i := range r.Perm(len(g.Edges)) {
				if e := g.Edges[i]; e.From == at || e.To == at {
					path = append(path, e.ID)
					at = e.From + e.To - at
					break
				}
			}
		}
		if r.Intn(3) > 0 {
			b = at
		}
		got := forest.CheckPath(g, a, b, path)
		if walks[got]++; got != isWalk(g, a, b, path) {
			t.Fatalf("CheckPath(%+v, %d, %d, %v) = %v", g, a, b, path, got)
		}
		side := modelOf(g).side(a)
		b = g.Vertices[r.Intn(len(g.Vertices))].ID
		for range r.Intn(3) {
			side = append(side, modelOf(g).side(r.Intn(24))...)
		}
		if r.Intn(4) == 0 {
			i := r.Intn(len(side))
			side = slices.Delete(side, i, i+1)
		}
		if r.Intn(4) > 0 {
			slices.Sort(side)
			side = slices.Compact(side)
		}
		got = forest.CheckSide(g, a, b, side)
		if sides[got]++; got != isSide(g, a, b, side) {
			t.Fatalf("CheckSide(%+v, %d, %d, %v) = %v", g, a, b, side, got)
		}
	}
	for _, ok := range []bool{true, false} {
		if walks[ok] < 1000 || sides[ok] < 1000 {
			t.Error("too few:", ok, walks[ok], sides[ok])
		}
	}
}
