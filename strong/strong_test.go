package strong_test

import (
	"math"
	"slices"
	"testing"

	"clearway/api"
	"clearway/strong"
)

// wantLabels fails the test if the labels of g are others.
func wantLabels(t *testing.T, g api.Graph, want string) {
	t.Helper()
	if l, e := strong.Labels(g); e != api.OK || text(l) != want {
		t.Errorf("Labels(%+v) = %v, %d; want %s", g, l, e, want)
	}
}

// wantComponents fails the test if the components of g are others.
func wantComponents(t *testing.T, g api.Graph, want string) {
	t.Helper()
	if l, e := strong.Components(g); e != api.OK || text(l) != want {
		t.Errorf("Components(%+v) = %v, %d; want %s", g, l, e, want)
	}
}

// The examples of the chapter.
func TestExamples(t *testing.T) {
	g := example()
	wantLabels(t, g, "[{ID:0 Label:[0 0 -1 0 -1 0 0]} {ID:1 Label:[0 1 0 1 1 0 0]} {ID:2 Label:[2 0 -1 0 -1 1 0]} {ID:3 Label:[2 1 3 1 4 1 1]}]")
	wantComponents(t, g, "[[0 1] [2 3]]")
	g.Edges[2].Directed = false
	wantLabels(t, g, "[{ID:0 Label:[0 0 -1 0 -1 0 0]} {ID:1 Label:[0 1 0 1 1 0 0]} {ID:2 Label:[0 2 2 2 2 0 0]} {ID:3 Label:[0 3 3 3 4 0 0]}]")
	wantComponents(t, g, "[[0 1 2 3]]")
}

// P9.1: labels and components of all kinds of graphs, as the chapter defines them.
func TestLabelsAndComponents(t *testing.T) {
	for _, g := range slices.Concat(samples(), small()) {
		m := modelOf(g)
		wantLabels(t, g, text(m.labels()))
		wantComponents(t, g, text(m.components()))
	}
}

// P9.1: every vertex is a component of its own if there are no edges, or only loops, or no way back.
func TestSingleVertices(t *testing.T) {
	for _, l := range [][]api.Edge{nil, {to(0, 5, 5), both(1, 7, 7)}} {
		wantLabels(t, graphOf([]int{0, 5, 7}, l...), "[{ID:0 Label:[0 0 -1 0 -1 0 0]} {ID:5 Label:[5 0 -1 0 -1 0 0]} {ID:7 Label:[7 0 -1 0 -1 0 0]}]")
	}
	wantLabels(t, graphOf([]int{0, 5, 7}, to(3, 7, 5), to(4, 5, 0), to(5, 7, 0), to(6, 7, 7)), "[{ID:0 Label:[0 0 -1 0 -1 2 0]} {ID:5 Label:[5 0 -1 0 -1 1 0]} {ID:7 Label:[7 0 -1 0 -1 0 0]}]")
	wantLabels(t, api.Graph{}, "[]")
	wantComponents(t, api.Graph{}, "[]")
}

// P9.1: an undirected edge has arcs in both directions, a directed one from From to To only.
func TestDirections(t *testing.T) {
	ids := []int{2, 9}
	wantLabels(t, graphOf(ids, both(8, 9, 2)), "[{ID:2 Label:[2 0 -1 0 -1 0 0]} {ID:9 Label:[2 1 8 1 8 0 0]}]")
	wantLabels(t, graphOf(ids, to(8, 9, 2)), "[{ID:2 Label:[2 0 -1 0 -1 1 0]} {ID:9 Label:[9 0 -1 0 -1 0 0]}]")
	wantLabels(t, graphOf(ids, to(8, 2, 9)), "[{ID:2 Label:[2 0 -1 0 -1 0 0]} {ID:9 Label:[9 0 -1 0 -1 1 0]}]")
	wantLabels(t, graphOf(ids, to(8, 2, 9), to(39, 9, 2)), "[{ID:2 Label:[2 0 -1 0 -1 0 0]} {ID:9 Label:[2 1 8 1 39 0 0]}]")
	wantLabels(t, graphOf(ids, to(0, 9, 2), to(7, 2, 9), both(8, 9, 2)), "[{ID:2 Label:[2 0 -1 0 -1 0 0]} {ID:9 Label:[2 1 7 1 0 0 0]}]")
}

// P9.1: of several edges from vertices that are as deep, the least one is in the label, whatever the order of these vertices.
func TestChoices(t *testing.T) {
	// 9 is reached over 5 and over 3, and leads back to 0 over both of them. The edge 3 comes from 11, which is as deep as 9.
	g := graphOf([]int{0, 3, 5, 9, 11}, both(1, 5, 9), both(2, 3, 9), to(3, 11, 9), both(4, 3, 0), both(5, 0, 5), both(6, 11, 3), to(7, 9, 3), to(8, 5, 9))
	wantLabels(t, g, "[{ID:0 Label:[0 0 -1 0 -1 0 0]} {ID:3 Label:[0 1 4 1 4 0 0]} {ID:5 Label:[0 1 5 1 5 0 0]} {ID:9 Label:[0 2 1 2 1 0 0]} {ID:11 Label:[0 2 6 2 6 0 0]}]")
	// With 1 directed, 9 leads back over 2; the other way round, it is reached over 2.
	g.Edges[0].Directed = true
	wantLabels(t, g, "[{ID:0 Label:[0 0 -1 0 -1 0 0]} {ID:3 Label:[0 1 4 1 4 0 0]} {ID:5 Label:[0 1 5 1 5 0 0]} {ID:9 Label:[0 2 1 2 2 0 0]} {ID:11 Label:[0 2 6 2 6 0 0]}]")
	g.Edges[0].From, g.Edges[0].To = 9, 5
	wantLabels(t, g, "[{ID:0 Label:[0 0 -1 0 -1 0 0]} {ID:3 Label:[0 1 4 1 4 0 0]} {ID:5 Label:[0 1 5 1 5 0 0]} {ID:9 Label:[0 2 2 2 1 0 0]} {ID:11 Label:[0 2 6 2 6 0 0]}]")
}

// P9.1: ways within a component may be long, out and in.
func TestRing(t *testing.T) {
	l, e := strong.Labels(ring())
	must(t, e)
	for id, x := range l {
		// The edge 39 - id leads from id to the vertex before it, and from 0 to 23.
		want := []int{0, 24 - id, 39 - (id+1)%24, id, 39 - id, 0, 0}
		if id == 0 {
			want = []int{0, 0, -1, 0, -1, 0, 0}
		}
		if x.ID != id || text(x.Label) != text(want) {
			t.Errorf("%+v; want %v", x, want)
		}
	}
}

// P9.1: ranks may be as great as 23, and go by the longest way.
func TestLine(t *testing.T) {
	l, e := strong.Labels(line())
	must(t, e)
	for id, x := range l {
		if want := []int{id, 0, -1, 0, -1, 23 - id, 0}; text(x.Label) != text(want) {
			t.Errorf("%+v; want %v", x, want)
		}
	}
	c, e := strong.Components(line())
	if must(t, e); len(c) != 24 || c[0][0] != 23 || c[23][0] != 0 {
		t.Error(c)
	}
}

// P9.1: components of one rank are ordered by their roots, and those of different ranks by these.
func TestOrder(t *testing.T) {
	wantComponents(t, graphOf([]int{0, 1, 2, 3, 4, 5, 6, 7}, to(0, 7, 0), both(1, 7, 4), both(2, 2, 3), to(3, 3, 1), to(4, 0, 6), to(5, 2, 6), both(6, 1, 5)), "[[2 3] [4 7] [0] [1 5] [6]]")
	wantComponents(t, pools(), "[[0 1 2 3] [21] [23] [4 5 6 7 8 9 10 11 12] [13 14 15 16 17 18 19 20]]")
}

// P9.1: witness distances go from those vertices to which arcs lead from a component of the rank before, not from lesser ones, along the arcs of the component.
func TestWitnesses(t *testing.T) {
	l, e := strong.Labels(pools())
	must(t, e)
	// Into 4 to 12, the arcs from 0 to 3 lead to 9 and 12; the ring goes up. Into 13 to 20, the only arc from there leads to 18, and the ring goes down.
	want := []int{0, 0, 0, 0, 1, 2, 3, 4, 5, 0, 1, 2, 0, 5, 4, 3, 2, 1, 0, 7, 6}
	for id, n := range want {
		if x := l[id]; x.ID != id || x.Label[6] != n || x.Label[5] != min(id/4, 1)+id/13 {
			t.Errorf("%+v; want %d", x, n)
		}
	}
	// An arc from a lesser rank alone makes no witness.
	wantLabels(t, graphOf([]int{0, 1, 2, 3}, to(0, 0, 1), to(1, 1, 2), to(2, 0, 3), both(3, 2, 3)), "[{ID:0 Label:[0 0 -1 0 -1 0 0]} {ID:1 Label:[1 0 -1 0 -1 1 0]} {ID:2 Label:[2 0 -1 0 -1 2 0]} {ID:3 Label:[2 1 3 1 3 2 1]}]")
}

// wantReaches fails the test if Reaches differs from the model m.
func wantReaches(t *testing.T, m model, from, to int) {
	t.Helper()
	want, of := false, api.ErrStrong
	if hasVertex(m.g, from) && hasVertex(m.g, to) {
		want, of = m.all[from][to] < far, api.OK
	}
	if ok, e := strong.Reaches(m.g, from, to); ok != want || e != of {
		t.Fatalf("Reaches(%+v, %d, %d) = %v, %d", m.g, from, to, ok, e)
	}
}

// P9.1: which vertices reach others, and that other numbers are no vertices.
func TestReaches(t *testing.T) {
	for _, g := range slices.Concat(samples(), small()) {
		m := modelOf(g)
		for a := -1; a < 26; a++ {
			for b := -1; b < 26; b++ {
				wantReaches(t, m, a, b)
			}
		}
		for _, id := range []int{math.MinInt, -1 << 32, 1 << 32, math.MaxInt} {
			wantReaches(t, m, id, 0)
			wantReaches(t, m, 0, id)
			wantReaches(t, m, id, id)
		}
	}
}

// P9.1: nothing but errors for graphs that are not valid.
func TestGraphsThatAreNotValid(t *testing.T) {
	for _, g := range broken() {
		if l, e := strong.Labels(g); e != api.ErrStrong || len(l) != 0 {
			t.Errorf("Labels(%+v) = %v, %d", g, l, e)
		}
		if l, e := strong.Components(g); e != api.ErrStrong || len(l) != 0 {
			t.Errorf("Components(%+v) = %v, %d", g, l, e)
		}
		for a := -1; a < 26; a++ {
			for b := -1; b < 26; b++ {
				if ok, e := strong.Reaches(g, a, b); ok || e != api.ErrStrong {
					t.Fatalf("Reaches(%+v, %d, %d) = %v, %d", g, a, b, ok, e)
				}
			}
		}
	}
}
