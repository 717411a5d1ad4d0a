package graph_test

import (
	"math"
	"slices"
	"testing"

	"clearway/api"
	"clearway/graph"
)

// wantValid fails the test if Valid of g is not what is wanted, or Encode, Apply, ApplyAll and Invert do not agree.
func wantValid(t *testing.T, g api.Graph, want bool) {
	t.Helper()
	if graph.Valid(g) != want {
		t.Errorf("Valid(%v) = %v", g, !want)
	}
	s, e := graph.Encode(g)
	if want != (e == api.OK) || want != (s != "") || !want && e != api.ErrGraph {
		t.Errorf("Encode(%v) = %x, %d", g, s, e)
	}
	c := api.Change{Kind: api.CDepots}
	if a, e := graph.Apply(g, c); want != (e == api.OK) || !want && (e != api.ErrGraph || !equal(a, api.Graph{})) {
		t.Errorf("Apply to %v = %v, %d", g, a, e)
	}
	for _, l := range [][]api.Change{nil, {c, c}, {{}}} {
		a, n, e := graph.ApplyAll(g, l)
		if !want && (!equal(a, api.Graph{}) || n != 0 || e != api.ErrGraph) {
			t.Errorf("ApplyAll to %v = %v, %d, %d", g, a, n, e)
		}
	}
	if l, e := graph.Invert(g, c); want != (e == api.OK) || !want && (e != api.ErrGraph || len(l) != 0) {
		t.Errorf("Invert for %v = %v, %d", g, l, e)
	}
}

// P3.1: graphs that are valid.
func TestValid(t *testing.T) {
	for _, g := range []api.Graph{
		{},
		{Vertices: []api.Vertex{}, Edges: []api.Edge{}, Depots: []int{}},
		example(),
		full(),
		{Vertices: []api.Vertex{{ID: 0, Side: 3}}},
		{Vertices: []api.Vertex{{ID: 23}}, Depots: []int{23}},
		{Vertices: []api.Vertex{{ID: 5}}, Edges: []api.Edge{{ID: 39, From: 5, To: 5, Weight: -1000, Cap: 1000}}},
		{Vertices: []api.Vertex{{ID: 5}, {ID: 9}}, Edges: []api.Edge{{ID: 0, From: 9, To: 5, Weight: 1000}, {ID: 1, From: 9, To: 5, Weight: 1000}}},
		{Vertices: []api.Vertex{{ID: 1}, {ID: 2}, {ID: 3}, {ID: 4}}, Depots: []int{1, 3, 4}},
	} {
		wantValid(t, g, true)
	}
}

// changed returns example() after f has changed it.
func changed(f func(g *api.Graph)) api.Graph {
	g := example()
	f(&g)
	return g
}

// P3.1: one thing is wrong with a graph that is otherwise valid.
func TestInvalid(t *testing.T) {
	for _, f := range []func(g *api.Graph){
		func(g *api.Graph) { g.Vertices[2].ID = 24; g.Edges[1].To = 24 },
		func(g *api.Graph) { g.Vertices[2].ID = 24; g.Edges[1].To = 0 },
		func(g *api.Graph) { g.Vertices = append(g.Vertices, api.Vertex{ID: math.MaxInt}) },
		func(g *api.Graph) { g.Vertices[0].ID = -1; g.Edges[0].From = -1; g.Depots = nil },
		func(g *api.Graph) { g.Vertices[0].ID = -1; g.Edges[0].From = 1; g.Depots = nil },
		func(g *api.Graph) { g.Vertices[0].ID = math.MinInt; g.Edges[0].From = 1; g.Depots = nil },
		func(g *api.Graph) { g.Vertices[0].Side = -1 },
		func(g *api.Graph) { g.Vertices[0].Side = 4 },
		func(g *api.Graph) { g.Vertices[2].Side = 4 },
		func(g *api.Graph) { g.Vertices[1], g.Vertices[2] = g.Vertices[2], g.Vertices[1] },
		func(g *api.Graph) { g.Vertices[0], g.Vertices[2] = g.Vertices[2], g.Vertices[0] },
		func(g *api.Graph) { g.Vertices = append(g.Vertices, g.Vertices[2]) },
		func(g *api.Graph) { g.Vertices = append(g.Vertices, g.Vertices[0]) },
		func(g *api.Graph) { g.Vertices = append(g.Vertices, api.Vertex{ID: 2}) },
		func(g *api.Graph) { g.Edges[1].ID = 40 },
		func(g *api.Graph) { g.Edges[0].ID = -1 },
		func(g *api.Graph) { g.Edges[0].ID = math.MinInt },
		func(g *api.Graph) { g.Edges[1].ID = 0 },
		func(g *api.Graph) { g.Edges[0], g.Edges[1] = g.Edges[1], g.Edges[0] },
		func(g *api.Graph) { g.Edges = append(g.Edges, g.Edges[1]) },
		func(g *api.Graph) { g.Edges = append(g.Edges, g.Edges[0]) },
		func(g *api.Graph) { g.Edges[1].From = 3 },
		func(g *api.Graph) { g.Edges[1].To = 3 },
		func(g *api.Graph) { g.Edges[1].From = -1 },
		func(g *api.Graph) { g.Edges[1].To = -1 },
		func(g *api.Graph) { g.Edges[1].From = 24 },
		func(g *api.Graph) { g.Edges[1].To = math.MinInt },
		func(g *api.Graph) { g.Edges[0].Weight = 1001 },
		func(g *api.Graph) { g.Edges[0].Weight = -1001 },
		func(g *api.Graph) { g.Edges[0].Weight = math.MinInt },
		func(g *api.Graph) { g.Edges[1].Weight = 1001 },
		func(g *api.Graph) { g.Edges[0].Cap = -1 },
		func(g *api.Graph) { g.Edges[0].Cap = 1001 },
		func(g *api.Graph) { g.Edges[0].Cap = math.MaxInt },
		func(g *api.Graph) { g.Depots[0] = 3 },
		func(g *api.Graph) { g.Depots[0] = -1 },
		func(g *api.Graph) { g.Depots[0] = 24 },
		func(g *api.Graph) { g.Depots = []int{1, 0} },
		func(g *api.Graph) { g.Depots = []int{1, 1} },
		func(g *api.Graph) { g.Depots = []int{0, 2, 1} },
		func(g *api.Graph) { g.Depots = []int{0, 1, 2, 3} },
		func(g *api.Graph) { g.Depots = []int{0, 1, 5} },
		func(g *api.Graph) { g.Vertices = nil },
		func(g *api.Graph) { g.Vertices, g.Edges = nil, nil },
		func(g *api.Graph) { g.Vertices, g.Depots = nil, nil },
	} {
		wantValid(t, changed(f), false)
	}
	g := full()
	g.Depots = []int{0, 1, 2, 3}
	wantValid(t, g, false)
	g = full()
	g.Vertices = append(g.Vertices, api.Vertex{ID: 24})
	wantValid(t, g, false)
	g = full()
	g.Edges = append(g.Edges, api.Edge{ID: 40})
	wantValid(t, g, false)
}

// P3.1: Same sees every field, of graphs that are valid and that are not.
func TestSame(t *testing.T) {
	l := []api.Graph{
		{},
		{Vertices: []api.Vertex{{}}},
		{Vertices: []api.Vertex{{}, {}}},
		{Edges: []api.Edge{{}}},
		{Edges: []api.Edge{{}, {}}},
		{Depots: []int{0}},
		{Depots: []int{0, 0}},
		{Depots: []int{0, 1}},
		{Depots: []int{1, 0}},
		{Depots: []int{-1}},
		example(),
		full(),
		changed(func(g *api.Graph) { g.Vertices[0].ID = 9 }),
		changed(func(g *api.Graph) { g.Vertices[2].ID = 9 }),
		changed(func(g *api.Graph) { g.Vertices[0].Side = 9 }),
		changed(func(g *api.Graph) { g.Vertices[2].Side = 9 }),
		changed(func(g *api.Graph) { g.Vertices = g.Vertices[:2] }),
		changed(func(g *api.Graph) { slices.Reverse(g.Vertices) }),
		changed(func(g *api.Graph) { g.Edges[0].ID = 9 }),
		changed(func(g *api.Graph) { g.Edges[1].ID = 9 }),
		changed(func(g *api.Graph) { g.Edges[0].From = 9 }),
		changed(func(g *api.Graph) { g.Edges[1].From = 9 }),
		changed(func(g *api.Graph) { g.Edges[0].To = 9 }),
		changed(func(g *api.Graph) { g.Edges[1].To = 9 }),
		changed(func(g *api.Graph) { g.Edges[0].Directed = true }),
		changed(func(g *api.Graph) { g.Edges[1].Directed = false }),
		changed(func(g *api.Graph) { g.Edges[0].Weight = 9 }),
		changed(func(g *api.Graph) { g.Edges[1].Weight = 9 }),
		changed(func(g *api.Graph) { g.Edges[0].Cap = 9 }),
		changed(func(g *api.Graph) { g.Edges[1].Cap = 9 }),
		changed(func(g *api.Graph) { g.Edges = g.Edges[:1] }),
		changed(func(g *api.Graph) { slices.Reverse(g.Edges) }),
		changed(func(g *api.Graph) { g.Depots = nil }),
		changed(func(g *api.Graph) { g.Depots[0] = 1 }),
		changed(func(g *api.Graph) { g.Depots = []int{0, 2} }),
	}
	for i, a := range l {
		for k, b := range l {
			if graph.Same(a, b) != (i == k) {
				t.Errorf("Same(%v, %v) = %v", a, b, i != k)
			}
		}
		b := api.Graph{Vertices: append([]api.Vertex{}, a.Vertices...), Edges: append([]api.Edge{}, a.Edges...), Depots: append([]int{}, a.Depots...)}
		if !graph.Same(a, b) || !graph.Same(b, a) {
			t.Errorf("%v is not the same as its copy", a)
		}
	}
}

// P3.1: the edges at a vertex, a loop once, of graphs that are valid and that are not.
func TestAt(t *testing.T) {
	e := func(id, from, to int) api.Edge {
		return api.Edge{ID: id, From: from, To: to, Directed: id%2 == 0, Weight: id, Cap: 1}
	}
	g := api.Graph{
		Vertices: []api.Vertex{{ID: 0}, {ID: 1}, {ID: 2}, {ID: 7}},
		Edges:    []api.Edge{e(0, 0, 1), e(3, 1, 0), e(4, 1, 1), e(7, 2, 1), e(9, 2, 2), e(39, 0, 2)},
	}
	wantAt := func(g api.Graph, id int, want ...int) {
		t.Helper()
		l := graph.At(g, id)
		for i, x := range l {
			if len(l) != len(want) || !slices.Contains(g.Edges, x) || x.ID != want[i] {
				t.Errorf("At(%v, %d) = %v", g, id, l)
				return
			}
		}
		if len(l) != len(want) {
			t.Errorf("At(%v, %d) = %v", g, id, l)
		}
	}
	wantAt(g, 0, 0, 3, 39)
	wantAt(g, 1, 0, 3, 4, 7)
	wantAt(g, 2, 7, 9, 39)
	wantAt(g, 7)
	wantAt(g, 3)
	for _, id := range []int{-1, 24, math.MinInt, math.MaxInt} {
		wantAt(g, id)
		wantAt(api.Graph{}, id)
	}
	wantAt(api.Graph{Edges: []api.Edge{e(7, 5, 6), e(3, 6, 6), e(3, 6, 5), e(-8, 1, 5)}}, 5, 7, 3, -8)
	for id := range 24 {
		var want []int
		for _, x := range full().Edges {
			if x.From == id || x.To == id {
				want = append(want, x.ID)
			}
		}
		wantAt(full(), id, want...)
	}
}

// P3.1: the other end, of edges that are valid and that are not.
func TestOther(t *testing.T) {
	for _, c := range []struct{ from, to, id, want int }{
		{0, 1, 0, 1},
		{0, 1, 1, 0},
		{0, 1, 2, -1},
		{0, 1, -1, -1},
		{1, 0, 0, 1},
		{1, 0, 1, 0},
		{5, 5, 5, 5},
		{5, 5, 0, -1},
		{0, 0, 0, 0},
		{23, 7, 7, 23},
		{24, -7, -7, 24},
		{24, -7, 24, -7},
		{math.MinInt, math.MaxInt, math.MinInt, math.MaxInt},
		{math.MinInt, math.MaxInt, math.MaxInt, math.MinInt},
		{math.MinInt, math.MaxInt, 0, -1},
	} {
		for _, directed := range []bool{false, true} {
			if n := graph.Other(api.Edge{ID: 1, From: c.from, To: c.to, Directed: directed, Weight: 3, Cap: 3}, c.id); n != c.want {
				t.Errorf("Other of %d, %d and %d = %d, want %d", c.from, c.to, c.id, n, c.want)
			}
		}
	}
}
