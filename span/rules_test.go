package span_test

import (
	"math/rand"
	"slices"
	"sync"
	"testing"

	"clearway/api"
	"clearway/span"
)

// roomy returns a copy of l with spare capacity, which is filled with x.
func roomy[T any](l []T, x T) []T {
	return append(slices.Clone(l), x, x, x)[:len(l)]
}

// allOf returns a text of the lists with their spare capacities.
func allOf[T any](lists ...[]T) string {
	s := ""
	for _, l := range lists {
		s += text(l[:cap(l)]) + text(len(l))
	}
	return s
}

// overwrite writes x to all of l, and to its spare capacity.
func overwrite[T any](x T, l []T) {
	for i := range l[:cap(l)] {
		l[:cap(l)][i] = x
	}
}

// roomyGraph returns a copy of g whose lists have spare capacity.
func roomyGraph(g api.Graph) api.Graph {
	return api.Graph{Vertices: roomy(g.Vertices, api.Vertex{ID: 99}), Edges: roomy(g.Edges, api.Edge{ID: 99}), Depots: roomy(g.Depots, 99)}
}

// graphText returns a text of the lists of g with their spare capacities.
func graphText(g api.Graph) string {
	return allOf(g.Vertices) + allOf(g.Edges) + allOf(g.Depots)
}

// viewText does the same for a view.
func viewText(v api.View) string {
	s := allOf(v.Edges) + allOf(v.Depots) + allOf(v.Labels)
	for _, x := range v.Labels {
		s += allOf(x.Label)
	}
	return s
}

// R3: arguments are not changed, nor is their spare capacity.
func TestArgumentsStay(t *testing.T) {
	r := rand.New(rand.NewSource(8))
	for range 1500 {
		g := roomyGraph(randomGraph(r))
		before := graphText(g)
		a, b := g.Vertices[r.Intn(len(g.Vertices))].ID, g.Vertices[r.Intn(len(g.Vertices))].ID
		v := viewOf(g, labelsOf(t, g), a)
		v.Edges, v.Depots, v.Labels = roomy(v.Edges, api.Edge{ID: 99}), roomy(v.Depots, 99), roomy(v.Labels, api.Named{ID: 99})
		for i, x := range v.Labels {
			v.Labels[i].Label = roomy(x.Label, 99)
		}
		seen := viewText(v)
		span.Good(v)
		span.Count(v)
		span.Tree(g)
		span.Heaviest(g, a, b)
		if graphText(g) != before || viewText(v) != seen {
			t.Fatalf("arguments are changed: %+v, %+v", g, v)
		}
	}
}

// R3: results are new memory, and no two lists of a result share any.
func TestResultsAreNew(t *testing.T) {
	r := rand.New(rand.NewSource(9))
	for range 600 {
		g := randomGraph(r)
		h := roomyGraph(g)
		labels, tree := modelOf(g), idsOf(forestOf(g))
		for range 2 {
			l, e := span.Labels(h)
			c, f := span.Tree(h)
			if must(t, e); f != api.OK || text(l) != text(labels) || text(c) != text(tree) {
				t.Fatalf("%+v: %v, %v", g, l, c)
			}
			for i, x := range l {
				overwrite(99, x.Label)
				for k, y := range l[i+1:] {
					if !slices.Equal(y.Label, labels[i+1+k].Label) {
						t.Fatalf("%+v: the labels of %d and %d share memory", g, x.ID, y.ID)
					}
				}
			}
			overwrite(api.Named{}, l)
			overwrite(99, c)
		}
		if graphText(h) != graphText(roomyGraph(g)) {
			t.Fatalf("results share memory with %+v", g)
		}
	}
}

// R3: nil and empty lists are equivalent.
func TestEmptyLists(t *testing.T) {
	for _, g := range []api.Graph{{}, {Vertices: []api.Vertex{}, Edges: []api.Edge{}, Depots: []int{}}} {
		wantLabels(t, g, "[]")
		wantTree(t, g)
		if id, e := span.Heaviest(g, 0, 0); id != 0 || e != api.ErrSpan {
			t.Error(id, e)
		}
	}
	for _, g := range []api.Graph{{Vertices: []api.Vertex{{ID: 4}}}, {Vertices: []api.Vertex{{ID: 4}}, Edges: []api.Edge{}, Depots: []int{}}} {
		wantLabels(t, g, "[{ID:4 Label:[4 0 -1 -1 0]}]")
		wantTree(t, g)
		if id, e := span.Heaviest(g, 4, 4); id != -1 || e != api.OK {
			t.Error(id, e)
		}
	}
	v := api.View{Vertex: api.Vertex{ID: 4}, Edges: []api.Edge{}, Labels: []api.Named{{ID: 4, Label: []int{4, 0, -1, -1, 0}}}}
	if !span.Good(v) || span.Good(api.View{Labels: []api.Named{}}) || span.Good(api.View{}) || span.Count(api.View{}) != 0 {
		t.Error("views")
	}
}

// anyInt returns a number, mostly a small one.
func anyInt(r *rand.Rand) int {
	if r.Intn(8) == 0 {
		return int(r.Uint64()) >> r.Intn(64)
	}
	return r.Intn(8) - 1
}

// anyLabel returns a list of numbers, mostly of ten.
func anyLabel(r *rand.Rand) []int {
	n := 10
	if r.Intn(8) == 0 {
		n = r.Intn(40)
	}
	var l []int
	for range n {
		l = append(l, anyInt(r))
	}
	return l
}

// R1, R2: no call panics, whatever the arguments are, and errors come without values.
func TestArbitrary(t *testing.T) {
	r := rand.New(rand.NewSource(10))
	for range 30000 {
		var g api.Graph
		v := api.View{Vertex: api.Vertex{ID: anyInt(r)}}
		for range r.Intn(5) {
			e := api.Edge{ID: anyInt(r), From: anyInt(r), To: anyInt(r), Directed: r.Intn(2) == 0, Weight: anyInt(r), Cap: anyInt(r)}
			g.Vertices = append(g.Vertices, api.Vertex{ID: anyInt(r), Side: anyInt(r)})
			g.Edges = append(g.Edges, e)
			if r.Intn(2) == 0 {
				e.From = v.Vertex.ID
			}
			v.Edges = append(v.Edges, e)
			v.Labels = append(v.Labels, api.Named{ID: anyInt(r), Label: anyLabel(r)})
		}
		wantView(t, v)
		a, b := anyInt(r), anyInt(r)
		if l, e := span.Labels(g); e != api.OK && (e != api.ErrSpan || len(l) != 0) {
			t.Fatal(l, e)
		}
		if l, e := span.Tree(g); e != api.OK && (e != api.ErrSpan || len(l) != 0) {
			t.Fatal(l, e)
		}
		if id, e := span.Heaviest(g, a, b); e != api.OK && (e != api.ErrSpan || id != 0) {
			t.Fatal(id, e)
		}
	}
}

// R4: no state is shared by calls, one after the other or at the same time (run with -race).
func TestParallel(t *testing.T) {
	g := ruler()
	l := labelsOf(t, g)
	c, e := span.Tree(g)
	must(t, e)
	want := text(l) + text(c)
	v := viewOf(g, l, 11)
	count := span.Count(v)
	var wg sync.WaitGroup
	for range 8 {
		wg.Go(func() {
			for range 50 {
				x, _ := span.Labels(g)
				y, _ := span.Tree(g)
				span.Labels(example())
				if id, _ := span.Heaviest(g, 3, 18); text(x)+text(y) != want || !span.Good(v) || span.Count(v) != count || id != 23 {
					t.Error("calls disturb each other")
				}
			}
		})
	}
	wg.Wait()
}
