package graph_test

import (
	"math"
	"math/rand"
	"testing"

	"clearway/api"
	"clearway/graph"
)

// The examples of the chapter.
func TestExamples(t *testing.T) {
	g := api.Graph{Vertices: []api.Vertex{{ID: 0}, {ID: 1}, {ID: 2}}, Edges: []api.Edge{{ID: 0, From: 0, To: 1, Weight: 5}, {ID: 1, From: 1, To: 2, Weight: 7}}}
	c := api.Change{Kind: api.CContract, ID: 1, N: 0}
	want := api.Graph{Vertices: []api.Vertex{{ID: 0}, {ID: 2}}, Edges: []api.Edge{{ID: 0, From: 0, To: 0, Weight: 5}, {ID: 1, From: 0, To: 2, Weight: 7}}}
	if a, e := graph.Apply(g, c); e != api.OK || !equal(a, want) {
		t.Errorf("contracted: %v, %d", a, e)
	}
	undo := api.Change{Kind: api.CSplit, ID: 0, Vertex: api.Vertex{ID: 1}, Ends: []int{1, 2}}
	if l, e := graph.Invert(g, c); e != api.OK || len(l) != 1 || !equal(l[0], undo) {
		t.Errorf("the inverse: %v, %d", l, e)
	}
	if a, e := graph.Apply(want, undo); e != api.OK || !equal(a, g) {
		t.Errorf("undone: %v, %d", a, e)
	}
	for _, c := range []api.Change{{Kind: api.CDropVertex, ID: 1}, {Kind: api.CAddEdge, Edge: api.Edge{ID: 1, From: 0, To: 1}}} {
		if a, e := graph.Apply(g, c); e != api.ErrGraph || !equal(a, api.Graph{}) {
			t.Errorf("%v: %v, %d", c, a, e)
		}
	}
	a, e := graph.Apply(g, api.Change{Kind: api.CSplit, ID: 1, Vertex: api.Vertex{ID: 3}, Ends: []int{2}})
	if e != api.OK || len(a.Vertices) != 4 || len(a.Edges) != 2 || a.Edges[0] != g.Edges[0] || a.Edges[1] != (api.Edge{ID: 1, From: 3, To: 2, Weight: 7}) {
		t.Errorf("split: %v, %d", a, e)
	}
}

// ids are numbers around the limits of vertices, edges and ends, and other ones.
var ids = []int{-2, -1, 0, 1, 2, 3, 4, 5, 22, 23, 24, 38, 39, 40, 79, 80, 1 << 32, 1<<32 + 1, math.MaxInt, math.MinInt, math.MinInt + 1}

// numbers are numbers around the limits of weights, capacities and sides, and other ones.
var numbers = []int{-1001, -1000, -999, -1, 0, 1, 2, 3, 4, 999, 1000, 1001, 1 << 32, math.MaxInt, math.MinInt}

// lists are lists of ends and of depots, most of them wrong.
var lists = [][]int{
	{}, {0}, {1}, {2}, {3}, {4}, {5}, {-1}, {-2}, {79}, {80}, {0, 1}, {1, 0}, {1, 2}, {2, 1}, {1, 1}, {0, 2}, {2, 0}, {1, 3}, {1, 2, 3}, {1, 2, 2}, {1, 3, 2},
	{0, 1, 2}, {0, 2, 1}, {2, 2, 2}, {0, 1, 3}, {0, 1, 2, 3}, {1, 2, 78, 79}, {1, 2, 3, 78, 79}, {78, 79}, {78}, {77, 78}, {79, 78}, {-1, 0}, {0, 23}, {23, 24}, {0, 1, 23},
	{0, 1, 23, 24}, {math.MinInt, 1}, {1, math.MaxInt}, {math.MinInt, math.MaxInt},
}

// universe returns very many changes, few of which act on a graph: all that can be made of a few values of the fields that a kind has.
func universe() []api.Change {
	var l []api.Change
	for _, a := range ids {
		for _, s := range numbers {
			l = append(l, api.Change{Kind: api.CAddVertex, Vertex: api.Vertex{ID: a, Side: s}}, api.Change{Kind: api.CSide, ID: a, N: s}, api.Change{Kind: api.CWeight, ID: a, N: s}, api.Change{Kind: api.CCap, ID: a, N: s})
		}
		for _, kind := range []int{api.CDropVertex, api.CDropEdge, 0, 11, -1, 12, math.MaxInt, math.MinInt, 1<<32 + 1} {
			l = append(l, api.Change{Kind: kind, ID: a})
		}
		for _, b := range ids {
			l = append(l, api.Change{Kind: api.CContract, ID: a, N: b})
			for _, s := range []int{-1, 0, 3, 4} {
				l = append(l, api.Change{Kind: api.CSplit, ID: a, Vertex: api.Vertex{ID: b, Side: s}})
			}
			for _, c := range ids {
				l = append(l, api.Change{Kind: api.CAddEdge, Edge: api.Edge{ID: a, From: b, To: c, Directed: true, Weight: 3, Cap: 4}})
			}
		}
	}
	for _, w := range numbers {
		for _, c := range numbers {
			l = append(l, api.Change{Kind: api.CAddEdge, Edge: api.Edge{ID: 2, Weight: w, Cap: c}})
		}
	}
	for _, some := range lists {
		l = append(l, api.Change{Kind: api.CDepots, Depots: some})
		for _, a := range []int{-1, 0, 1, 2, 3, 23, 24} {
			for _, b := range []int{-1, 0, 3, 22, 24} {
				l = append(l, api.Change{Kind: api.CSplit, ID: a, Vertex: api.Vertex{ID: b, Side: 2}, Ends: some})
			}
		}
	}
	return l
}

// bases returns graphs on which changes of universe act in different ways.
func bases() []api.Graph {
	loop := example()
	loop.Edges = append(loop.Edges, api.Edge{ID: 39, From: 1, To: 1, Weight: -1000, Cap: 1000})
	loop.Depots = []int{0, 2}
	far := api.Graph{
		Vertices: []api.Vertex{{ID: 0, Side: 1}, {ID: 23, Side: 2}},
		Edges:    []api.Edge{{ID: 1, From: 23, To: 0, Weight: 1000}, {ID: 39, From: 0, To: 23}},
		Depots:   []int{23},
	}
	return []api.Graph{{}, {Vertices: []api.Vertex{{ID: 1, Side: 3}}}, example(), loop, far, full()}
}

// P3.1: very many changes do what the chapter's table says, or are refused.
func TestApplyAndInvert(t *testing.T) {
	l := universe()
	for _, g := range bases() {
		acted := map[int]int{}
		for _, c := range l {
			if _, ok := wantChange(t, g, c); ok {
				acted[c.Kind]++
			}
		}
		if graph.Same(g, example()) && len(acted) != 9 { // all kinds but CDropVertex
			t.Errorf("changes that acted: %v", acted)
		}
	}
}

// P3.1: all other fields of a change are zero; an empty list is.
func TestOtherFields(t *testing.T) {
	g := example()
	g.Vertices = append(g.Vertices, api.Vertex{ID: 5})
	acting := []api.Change{
		{Kind: api.CAddVertex, Vertex: api.Vertex{ID: 9, Side: 1}},
		{Kind: api.CDropVertex, ID: 5},
		{Kind: api.CAddEdge, Edge: api.Edge{ID: 9, From: 1, To: 2}},
		{Kind: api.CDropEdge, ID: 1},
		{Kind: api.CWeight, ID: 1, N: 9},
		{Kind: api.CCap, ID: 1, N: 9},
		{Kind: api.CContract, ID: 1, N: 2},
		{Kind: api.CSplit, ID: 1, Vertex: api.Vertex{ID: 9}, Ends: []int{1}},
		{Kind: api.CSide, ID: 1, N: 1},
		{Kind: api.CDepots, Depots: []int{1, 2}},
	}
	extra := []func(c *api.Change){
		func(c *api.Change) { c.Vertex.ID++ },
		func(c *api.Change) { c.Vertex.Side++ },
		func(c *api.Change) { c.Edge.ID++ },
		func(c *api.Change) { c.Edge.From++ },
		func(c *api.Change) { c.Edge.To-- },
		func(c *api.Change) { c.Edge.Directed = true },
		func(c *api.Change) { c.Edge.Weight++ },
		func(c *api.Change) { c.Edge.Cap++ },
		func(c *api.Change) { c.ID-- },
		func(c *api.Change) { c.ID++ },
		func(c *api.Change) { c.N++ },
		func(c *api.Change) { c.N-- },
		func(c *api.Change) { c.Ends = append(c.Ends, 2) },
		func(c *api.Change) { c.Depots = append(c.Depots, 5) },
		func(c *api.Change) { c.Depots = append(c.Depots, 0) },
	}
	for i, c := range acting {
		if _, ok := wantChange(t, g, c); !ok || c.Kind != i+1 {
			t.Errorf("%v does not act", c)
		}
		d := c
		d.Ends, d.Depots = append([]int{}, c.Ends...), append([]int{}, c.Depots...)
		if _, ok := wantChange(t, g, d); !ok {
			t.Errorf("%v does not act", d)
		}
		for k, f := range extra {
			d := c
			f(&d)
			if _, ok := wantChange(t, g, d); ok && !equal(d, plain(d)) {
				t.Errorf("%v acts, with the extra field %d", d, k)
			}
		}
	}
}

// P3.1: random changes of random graphs.
func TestRandomChanges(t *testing.T) {
	r := rand.New(rand.NewSource(1))
	acted := map[int]int{}
	for range 30000 {
		g := randomGraph(r)
		if !graph.Valid(g) {
			t.Fatalf("%v is not valid", g)
		}
		c := randomChange(r, g)
		if _, ok := wantChange(t, g, c); ok {
			acted[c.Kind]++
		}
	}
	for kind := 1; kind <= 10; kind++ {
		if acted[kind] < 100 {
			t.Errorf("only %d changes of the kind %d acted", acted[kind], kind)
		}
	}
}

// P3.1: ApplyAll goes on from one change to the next, and tells how many acted.
func TestApplyAll(t *testing.T) {
	r := rand.New(rand.NewSource(2))
	failed, done := 0, 0
	for range 3000 {
		g := randomGraph(r)
		m := modelOf(g)
		var l []api.Change
		ok := true
		for range r.Intn(12) {
			c := randomChange(r, m.graph())
			l = append(l, c)
			if _, ok = m.act(c); !ok {
				break
			}
		}
		a, n, e := graph.ApplyAll(g, l)
		if ok {
			done++
			if want := m.graph(); !equal(a, want) || n != len(l) || e != api.OK {
				t.Fatalf("ApplyAll(%v, %v) = %v, %d, %d; want %v", g, l, a, n, e, want)
			}
			continue
		}
		failed++
		at := len(l) - 1
		longer := append(l, api.Change{Kind: api.CDepots}, api.Change{}) // what follows does not matter
		for k := at + 1; k <= len(longer); k++ {
			if a, n, e := graph.ApplyAll(g, longer[:k]); !equal(a, api.Graph{}) || n != at || e != api.ErrGraph {
				t.Fatalf("ApplyAll(%v, %v) = %v, %d, %d", g, longer[:k], a, n, e)
			}
		}
	}
	if failed < 300 || done < 300 {
		t.Errorf("%d lists acted, %d did not", done, failed)
	}
}

// P3.1: no changes, one, and the first one that does not act.
func TestApplyAllFew(t *testing.T) {
	side := api.Change{Kind: api.CSide, ID: 0, N: 2}
	drop := api.Change{Kind: api.CDropEdge, ID: 0}
	after := example()
	after.Vertices[0].Side = 2
	without := api.Graph{Vertices: after.Vertices, Edges: after.Edges[1:], Depots: after.Depots}
	for _, c := range []struct {
		l    []api.Change
		want api.Graph
		n    int
		e    api.Errno
	}{
		{nil, example(), 0, api.OK},
		{[]api.Change{}, example(), 0, api.OK},
		{[]api.Change{side}, after, 1, api.OK},
		{[]api.Change{side, side}, after, 2, api.OK},
		{[]api.Change{side, drop}, without, 2, api.OK},
		{[]api.Change{{}}, api.Graph{}, 0, api.ErrGraph},
		{[]api.Change{{}, side}, api.Graph{}, 0, api.ErrGraph},
		{[]api.Change{side, {}}, api.Graph{}, 1, api.ErrGraph},
		{[]api.Change{side, drop, drop, side}, api.Graph{}, 2, api.ErrGraph},
		{[]api.Change{drop, drop}, api.Graph{}, 1, api.ErrGraph},
	} {
		if a, n, e := graph.ApplyAll(example(), c.l); !equal(a, c.want) || n != c.n || e != c.e {
			t.Errorf("ApplyAll(%v) = %v, %d, %d; want %v, %d, %d", c.l, a, n, e, c.want, c.n, c.e)
		}
	}
}
