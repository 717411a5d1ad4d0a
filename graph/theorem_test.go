package graph_test

import (
	"maps"
	"math/rand"
	"slices"
	"sync"
	"testing"

	"clearway/api"
	"clearway/graph"
)

// step is a change that acts on a graph, and the graph afterwards.
type step struct {
	g     api.Graph
	c     api.Change
	after api.Graph
}

// steps returns very many steps: the changes of universe on bases, and random walks, where the graph afterwards is the one before of the next step.
var steps = sync.OnceValue(func() []step {
	var l []step
	for _, g := range bases() {
		for _, c := range universe() {
			if a, e := graph.Apply(g, c); e == api.OK {
				l = append(l, step{g, c, a})
			}
		}
	}
	r := rand.New(rand.NewSource(3))
	for range 200 {
		g := randomGraph(r)
		for range 60 {
			c := randomChange(r, g)
			if a, e := graph.Apply(g, c); e == api.OK {
				l = append(l, step{g, c, a})
				g = a
			}
		}
	}
	return l
})

// There are many steps of each kind.
func TestSteps(t *testing.T) {
	many := map[int]int{}
	for _, s := range steps() {
		many[s.c.Kind]++
	}
	for kind := 1; kind <= 10; kind++ {
		if many[kind] < 100 {
			t.Errorf("only %d steps of the kind %d", many[kind], kind)
		}
	}
}

// P3.2: a change that acts on a valid graph leaves a valid graph. (A graph whose vertices or edges are not strictly ascending is not that of its model.)
func TestStaysValid(t *testing.T) {
	for _, s := range steps() {
		g, c, after := s.g, s.c, s.after
		if !graph.Valid(after) || !equal(modelOf(after).graph(), after) {
			t.Fatalf("%v on %v leads to %v", c, g, after)
		}
	}
}

// P3.3: the inverse acts on the graph afterwards, and leads back; the inverse of the inverse leads forth again.
func TestUndo(t *testing.T) {
	for _, s := range steps() {
		g, c, after := s.g, s.c, s.after
		undo, e := graph.Invert(g, c)
		back, n, f := graph.ApplyAll(after, undo)
		if e != api.OK || f != api.OK || n != len(undo) || !equal(back, g) {
			t.Fatalf("%v is undone by %v, from %v to %v (errors %d, %d), not to %v", c, undo, after, back, e, f, g)
		}
		if len(undo) != 1 {
			t.Fatalf("%v is undone by %v", c, undo)
		}
		redo, e := graph.Invert(after, undo[0])
		forth, _, f := graph.ApplyAll(back, redo)
		if e != api.OK || f != api.OK || !equal(forth, after) {
			t.Fatalf("%v is done again by %v, to %v (errors %d, %d), not to %v", c, redo, forth, e, f, after)
		}
	}
}

// P3.3: a whole history is undone by the inverses of its changes, the last one first.
func TestUndoHistories(t *testing.T) {
	r := rand.New(rand.NewSource(4))
	for range 200 {
		first := randomGraph(r)
		g := first
		var undo []api.Change
		for range 40 {
			c := randomChange(r, g)
			if l, e := graph.Invert(g, c); e == api.OK {
				undo = append(l, undo...)
				g, _ = graph.Apply(g, c)
			}
		}
		if back, n, e := graph.ApplyAll(g, undo); e != api.OK || n != len(undo) || !equal(back, first) {
			t.Fatalf("%v leads from %v to %v, not to %v", undo, g, back, first)
		}
	}
}

// touched returns the vertices and the edges that c, acting on g, may alter: those that it names, and the edges at a vertex that is contracted or split.
func touched(g api.Graph, c api.Change) (vertices, edges []int) {
	switch c.Kind {
	case api.CAddVertex:
		return []int{c.Vertex.ID}, nil
	case api.CDropVertex, api.CSide:
		return []int{c.ID}, nil
	case api.CAddEdge:
		return nil, []int{c.Edge.ID}
	case api.CDropEdge, api.CWeight, api.CCap:
		return nil, []int{c.ID}
	case api.CContract:
		vertices = []int{c.ID}
	case api.CSplit:
		vertices = []int{c.Vertex.ID}
	}
	if c.Kind != api.CDepots {
		for _, n := range modelOf(g).at(c.ID) {
			edges = append(edges, n/2)
		}
	}
	return vertices, edges
}

// P3.4: a change alters nothing else; and only CDepots alters the depots.
func TestLocality(t *testing.T) {
	for _, s := range steps() {
		g, c, after := s.g, s.c, s.after
		a, b := modelOf(g), modelOf(after)
		vertices, edges := touched(g, c)
		for _, m := range []model{a, b} {
			for _, id := range vertices {
				delete(m.side, id)
			}
			for _, id := range edges {
				delete(m.ends, id)
				delete(m.rest, id)
			}
		}
		same := slices.Equal(a.depots, b.depots) || c.Kind == api.CDepots
		if !same || !maps.Equal(a.side, b.side) || !maps.Equal(a.ends, b.ends) || !maps.Equal(a.rest, b.rest) {
			t.Fatalf("%v alters %v to %v", c, g, after)
		}
	}
}

// P3.4: where an edge is moved, or its weight or capacity is changed, all its other fields stay; so do those of a vertex.
func TestFieldsStay(t *testing.T) {
	for _, s := range steps() {
		g, c, after := s.g, s.c, s.after
		a, b := modelOf(g), modelOf(after)
		for id, rest := range a.rest {
			now, ok := b.rest[id]
			switch {
			case c.Kind == api.CDropEdge && c.ID == id:
				continue
			case c.Kind == api.CWeight && c.ID == id:
				rest.Weight = c.N
			case c.Kind == api.CCap && c.ID == id:
				rest.Cap = c.N
			}
			if !ok || now != rest {
				t.Fatalf("%v alters the edge %d of %v to %v", c, id, g, now)
			}
			if c.Kind != api.CContract && c.Kind != api.CSplit && a.ends[id] != b.ends[id] {
				t.Fatalf("%v moves the edge %d of %v", c, id, g)
			}
		}
	}
}

// named returns what c names: a vertex (1) or an edge (2), and its number; or false if c contracts, splits or names a depot.
func named(c api.Change) ([2]int, bool) {
	switch c.Kind {
	case api.CAddVertex:
		return [2]int{1, c.Vertex.ID}, true
	case api.CDropVertex, api.CSide:
		return [2]int{1, c.ID}, true
	case api.CAddEdge:
		return [2]int{2, c.Edge.ID}, true
	case api.CDropEdge, api.CWeight, api.CCap:
		return [2]int{2, c.ID}, true
	}
	return [2]int{}, false
}

// wantOrder fails the test if a and b name different things, act in both orders, and lead to different graphs. It reports whether they act in both.
func wantOrder(t *testing.T, g api.Graph, a, b api.Change) bool {
	t.Helper()
	x, ok := named(a)
	y, ok2 := named(b)
	if !ok || !ok2 || x == y {
		return false
	}
	one, _, e := graph.ApplyAll(g, []api.Change{a, b})
	two, _, f := graph.ApplyAll(g, []api.Change{b, a})
	if e != api.OK || f != api.OK {
		return false
	}
	if !graph.Same(one, two) || !equal(one, two) {
		t.Fatalf("%v and %v lead from %v to %v or to %v", a, b, g, one, two)
	}
	return true
}

// P3.5: the order of two changes that name different edges or vertices does not matter.
func TestOrder(t *testing.T) {
	r := rand.New(rand.NewSource(5))
	fixed := bases()[2:]
	both := map[[2]int]int{}
	for range 100000 {
		g := fixed[r.Intn(len(fixed))]
		if r.Intn(2) == 0 {
			g = randomGraph(r)
		}
		a := randomChange(r, g)
		if b := randomChange(r, g); wantOrder(t, g, a, b) {
			both[[2]int{a.Kind, b.Kind}]++
		}
	}
	kinds := []int{api.CAddVertex, api.CDropVertex, api.CAddEdge, api.CDropEdge, api.CWeight, api.CCap, api.CSide}
	for _, a := range kinds {
		for _, b := range kinds {
			if both[[2]int{a, b}] < 20 {
				t.Errorf("only %d pairs of the kinds %d and %d", both[[2]int{a, b}], a, b)
			}
		}
	}
}

// P3.7: a contraction keeps all edges: those of their ends that were at other vertices stay there, and the others are at the vertex into which was contracted.
func TestContractKeepsEdges(t *testing.T) {
	seen := 0
	for _, s := range steps() {
		g, c, after := s.g, s.c, s.after
		if c.Kind != api.CContract {
			continue
		}
		seen++
		a, b := modelOf(g), modelOf(after)
		if len(a.ends) != len(b.ends) || len(graph.At(after, c.ID)) != 0 {
			t.Fatalf("%v on %v loses edges, or leaves some: %v", c, g, after)
		}
		for id, ends := range a.ends {
			for k, v := range ends {
				if v == c.ID {
					v = c.N
				}
				if b.ends[id][k] != v {
					t.Fatalf("%v on %v moves the end %d of the edge %d to %d", c, g, k, id, b.ends[id][k])
				}
			}
		}
	}
	if seen < 300 {
		t.Errorf("only %d contractions", seen)
	}
}

// P3.7: splitting off all ends, and contracting the old vertex into the new one, only changes the number of a vertex.
func TestRenumber(t *testing.T) {
	r := rand.New(rand.NewSource(6))
	graphs := bases()
	for range 300 {
		graphs = append(graphs, randomGraph(r))
	}
	seen := 0
	for _, g := range graphs {
		for _, v := range g.Vertices {
			for id := range 24 {
				m := modelOf(g)
				if m.vertex(id) || slices.Contains(g.Depots, v.ID) {
					continue
				}
				seen++
				all := m.at(v.ID)
				l := []api.Change{{Kind: api.CSplit, ID: v.ID, Vertex: api.Vertex{ID: id, Side: v.Side}, Ends: all}, {Kind: api.CContract, ID: v.ID, N: id}}
				a, _, e := graph.ApplyAll(g, l)
				delete(m.side, v.ID)
				m.side[id] = v.Side
				m.move(all, id)
				if want := m.graph(); e != api.OK || !equal(a, want) {
					t.Fatalf("%v leads from %v to %v (error %d), not to %v", l, g, a, e, want)
				}
			}
		}
	}
	if seen < 1000 {
		t.Errorf("only %d vertices", seen)
	}
}
