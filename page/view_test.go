package page_test

import (
	"math"
	"math/rand"
	"slices"
	"testing"

	"clearway/api"
	"clearway/page"
)

// P6.1: the neighbours, also by edges that no graph has.
func TestNeighbours(t *testing.T) {
	e := func(from, to int) api.Edge { return api.Edge{From: from, To: to} }
	l := []api.Edge{e(3, 9), e(9, 3), e(3, 3), e(9, 1), e(1, 0), e(3, 1), e(0, 9), {ID: 50, From: 9, To: 23, Directed: true, Weight: 5000, Cap: -1}}
	for _, c := range []struct {
		id   int
		l    []api.Edge
		want []int
	}{
		{3, l, []int{1, 9}},
		{9, l, []int{0, 1, 3, 23}},
		{1, l, []int{0, 3, 9}},
		{0, l, []int{1, 9}},
		{23, l, []int{9}},
		{2, l, nil},
		{-1, l, nil},
		{50, l, nil},
		{3, nil, nil},
		{3, []api.Edge{e(3, 3)}, nil},
		{-1, []api.Edge{e(-1, -1)}, nil},
		{5, []api.Edge{e(-1, 5), e(5, -7), e(-7, -1)}, []int{-7, -1}},
		{-1, []api.Edge{e(-1, 5), e(5, -7), e(-7, -1)}, []int{-7, 5}},
		{0, []api.Edge{e(0, math.MaxInt), e(math.MinInt, 0), e(24, 0)}, []int{math.MinInt, 24, math.MaxInt}},
		{math.MinInt, []api.Edge{e(0, math.MinInt), e(math.MinInt, math.MinInt)}, []int{0}},
	} {
		for range 5 {
			if got := page.Neighbours(c.id, c.l); !slices.Equal(got, c.want) {
				t.Errorf("Neighbours(%d, %v) = %v, want %v", c.id, c.l, got, c.want)
			}
		}
	}
}

// nearby reports whether b is a vertex a, or joined to it by one of the edges l.
func nearby(a, b int, l []api.Edge) bool {
	return a == b || slices.ContainsFunc(l, func(e api.Edge) bool { return e.From == a && e.To == b || e.From == b && e.To == a })
}

// viewOf returns the view of the vertex v of g.
func viewOf(g api.Graph, labels []api.Named, v api.Vertex) api.View {
	w := api.View{Vertex: v, Depots: g.Depots}
	for _, e := range g.Edges {
		if e.From == v.ID || e.To == v.ID {
			w.Edges = append(w.Edges, e)
		}
	}
	for _, x := range labels {
		if nearby(v.ID, x.ID, g.Edges) {
			w.Labels = append(w.Labels, x)
		}
	}
	return w
}

// P6.1: the views of all vertices, and the neighbours of all numbers.
func TestView(t *testing.T) {
	r := rand.New(rand.NewSource(5))
	for _, g := range samples() {
		labels := randomLabels(r, g)
		there := map[int]bool{}
		for _, v := range g.Vertices {
			there[v.ID] = true
			want := viewOf(g, labels, v)
			if w, e := page.View(g, labels, v.ID); e != api.OK || text(w) != text(want) {
				t.Fatalf("View(%+v, %v, %d) = %+v, %d; want %+v", g, labels, v.ID, w, e, want)
			}
			var near []int
			for id := range 24 {
				if id != v.ID && nearby(v.ID, id, g.Edges) {
					near = append(near, id)
				}
			}
			for _, l := range [][]api.Edge{g.Edges, want.Edges} {
				if got := page.Neighbours(v.ID, l); !slices.Equal(got, near) {
					t.Fatalf("Neighbours(%d, %v) = %v, want %v", v.ID, l, got, near)
				}
			}
		}
		for _, id := range []int{-1, 0, 1, 2, 3, 22, 23, 24, 63, math.MinInt, math.MaxInt} {
			if w, e := page.View(g, labels, id); !there[id] && (e != api.ErrPage || text(w) != text(api.View{})) {
				t.Fatalf("View(%+v, %v, %d) = %+v, %d", g, labels, id, w, e)
			}
		}
	}
}

// P6.1: views with few labels, with those of vertices that are not there, and with the longest ones.
func TestViewWithOtherLabels(t *testing.T) {
	g := example()
	long := api.Named{ID: 2, Label: slices.Repeat([]int{math.MinInt, math.MaxInt}, 32)}
	for _, c := range []struct {
		labels []api.Named
		want   []int // the vertices whose labels are in the view of 0
	}{
		{nil, nil},
		{[]api.Named{{ID: 1, Label: []int{5}}}, nil},
		{[]api.Named{{ID: 1}, {ID: 23}}, nil},
		{[]api.Named{{ID: 0}}, []int{0}},
		{[]api.Named{long}, []int{2}},
		{[]api.Named{{ID: 0, Label: []int{7}}, {ID: 1}, long, {ID: 3}, {ID: 23}}, []int{0, 2}},
	} {
		w, e := page.View(g, c.labels, 0)
		var ids []int
		for _, x := range w.Labels {
			ids = append(ids, x.ID)
		}
		if e != api.OK || !slices.Equal(ids, c.want) || text(w) != text(viewOf(g, c.labels, g.Vertices[0])) {
			t.Errorf("%v: %+v, %d", c.labels, w, e)
		}
	}
}

// P6.1: what are no labels, and graphs that are not valid.
func TestNoView(t *testing.T) {
	refused := func(g api.Graph, l []api.Named, id int) {
		t.Helper()
		if w, e := page.View(g, l, id); e != api.ErrPage || text(w) != text(api.View{}) {
			t.Errorf("View(%+v, %v, %d) = %+v, %d", g, l, id, w, e)
		}
	}
	long := make([]int, 65)
	for _, l := range [][]api.Named{
		{{ID: 24}}, {{ID: -1}}, {{ID: 23}, {ID: 24}}, {{ID: -1}, {ID: 0}}, {{ID: math.MinInt}}, {{ID: math.MaxInt}},
		{{ID: 0}, {ID: 0}}, {{ID: 2}, {ID: 0}}, {{ID: 0}, {ID: 2}, {ID: 1}}, {{ID: 5}, {ID: 5}},
		{{ID: 0, Label: long}}, {{ID: 0}, {ID: 23, Label: long}}, slices.Repeat([]api.Named{{}}, 25),
	} {
		for _, id := range []int{0, 1, 2} {
			refused(example(), l, id)
		}
	}
	for _, g := range broken() {
		for id := range 4 {
			refused(g, nil, id)
		}
	}
	refused(api.Graph{}, nil, 0)
}
