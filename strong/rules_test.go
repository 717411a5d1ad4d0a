package strong_test

import (
	"math/rand"
	"slices"
	"sync"
	"testing"

	"clearway/api"
	"clearway/strong"
)

// roomy returns a copy of l with spare capacity, which is filled with x.
func roomy[T any](l []T, x T) []T {
	return append(slices.Clone(l), x, x, x)[:len(l)]
}

// allOf returns a text of the lists with their spare capacities.
func allOf[T any](lists ...[]T) string {
	s := ""
	for _, l := range lists {
		s += text(l[:cap(l)]) + text(len(l))
	}
	return s
}

// overwrite writes x to all of l, and to its spare capacity.
func overwrite[T any](x T, l []T) {
	for i := range l[:cap(l)] {
		l[:cap(l)][i] = x
	}
}

// roomyGraph returns a copy of g whose lists have spare capacity.
func roomyGraph(g api.Graph) api.Graph {
	return api.Graph{Vertices: roomy(g.Vertices, api.Vertex{ID: 99}), Edges: roomy(g.Edges, api.Edge{ID: 99}), Depots: roomy(g.Depots, 99)}
}

// graphText returns a text of the lists of g with their spare capacities.
func graphText(g api.Graph) string {
	return allOf(g.Vertices) + allOf(g.Edges) + allOf(g.Depots)
}

// viewText does the same for a view.
func viewText(v api.View) string {
	s := allOf(v.Edges) + allOf(v.Depots) + allOf(v.Labels)
	for _, x := range v.Labels {
		s += allOf(x.Label)
	}
	return s
}

// R3: arguments are not changed, nor is their spare capacity.
func TestArgumentsStay(t *testing.T) {
	r := rand.New(rand.NewSource(8))
	for range 1500 {
		g := roomyGraph(randomGraph(r))
		before := graphText(g)
		a, b := g.Vertices[r.Intn(len(g.Vertices))].ID, g.Vertices[r.Intn(len(g.Vertices))].ID
		v := viewOf(g, labelsOf(t, g), a)
		v.Edges, v.Depots, v.Labels = roomy(v.Edges, api.Edge{ID: 99}), roomy(v.Depots, 99), roomy(v.Labels, api.Named{ID: 99})
		for i, x := range v.Labels {
			v.Labels[i].Label = roomy(x.Label, 99)
		}
		seen := viewText(v)
		strong.Good(v)
		strong.Count(v)
		strong.Components(g)
		strong.Reaches(g, a, b)
		if graphText(g) != before || viewText(v) != seen {
			t.Fatalf("arguments are changed: %+v, %+v", g, v)
		}
	}
}

// R3: results are new memory, and no two lists of a result share any.
func TestResultsAreNew(t *testing.T) {
	r := rand.New(rand.NewSource(9))
	for range 600 {
		g := randomGraph(r)
		h := roomyGraph(g)
		m := modelOf(g)
		labels, components := m.labels(), m.components()
		for range 2 {
			l, e := strong.Labels(h)
			c, f := strong.Components(h)
			if must(t, e); f != api.OK || text(l) != text(labels) || text(c) != text(components) {
				t.Fatalf("%+v: %v, %v", g, l, c)
			}
			for i, x := range l {
				overwrite(99, x.Label)
				for k, y := range l[i+1:] {
					if !slices.Equal(y.Label, labels[i+1+k].Label) {
						t.Fatalf("%+v: the labels of %d and %d share memory", g, x.ID, y.ID)
					}
				}
			}
			for i, x := range c {
				overwrite(99, x)
				for k, y := range c[i+1:] {
					if !slices.Equal(y, components[i+1+k]) {
						t.Fatalf("%+v: components share memory", g)
					}
				}
			}
			overwrite(api.Named{}, l)
			overwrite(nil, c)
		}
		if graphText(h) != graphText(roomyGraph(g)) {
			t.Fatalf("results share memory with %+v", g)
		}
	}
}

// R3: nil and empty lists are equivalent.
func TestEmptyLists(t *testing.T) {
	for _, g := range []api.Graph{{}, {Vertices: []api.Vertex{}, Edges: []api.Edge{}, Depots: []int{}}} {
		wantLabels(t, g, "[]")
		wantComponents(t, g, "[]")
		if ok, e := strong.Reaches(g, 0, 0); ok || e != api.ErrStrong {
			t.Error(ok, e)
		}
	}
	for _, g := range []api.Graph{{Vertices: []api.Vertex{{ID: 4}}}, {Vertices: []api.Vertex{{ID: 4}}, Edges: []api.Edge{}, Depots: []int{}}} {
		wantLabels(t, g, "[{ID:4 Label:[4 0 -1 0 -1 0 0]}]")
		wantComponents(t, g, "[[4]]")
		if ok, e := strong.Reaches(g, 4, 4); !ok || e != api.OK {
			t.Error(ok, e)
		}
	}
	v := api.View{Vertex: api.Vertex{ID: 4}, Edges: []api.Edge{}, Labels: []api.Named{{ID: 4, Label: []int{4, 0, -1, 0, -1, 0, 0}}}}
	if !strong.Good(v) || strong.Good(api.View{Labels: []api.Named{}}) || strong.Good(api.View{}) || strong.Count(api.View{}) != 0 {
		t.Error("views")
	}
}

// anyInt returns a number, mostly a small one.
func anyInt(r *rand.Rand) int {
	if r.Intn(8) == 0 {
		return int(r.Uint64()) >> r.Intn(64)
	}
	return r.Intn(8) - 1
}

// anyLabel returns a list of numbers, mostly of seven.
func anyLabel(r *rand.Rand) []int {
	n := 7
	if r.Intn(8) == 0 {
		n = r.Intn(9)
	}
	var l []int
	for range n {
		l = append(l, anyInt(r))
	}
	return l
}

// R1, R2: no call panics, whatever the arguments are, and errors come without values.
func TestArbitrary(t *testing.T) {
	r := rand.New(rand.NewSource(10))
	for range 30000 {
		var g api.Graph
		v := api.View{Vertex: api.Vertex{ID: anyInt(r)}}
		for range r.Intn(5) {
			e := api.Edge{ID: anyInt(r), From: anyInt(r), To: anyInt(r), Directed: r.Intn(2) == 0, Weight: anyInt(r), Cap: anyInt(r)}
			g.Vertices = append(g.Vertices, api.Vertex{ID: anyInt(r), Side: anyInt(r)})
			g.Edges = append(g.Edges, e)
			if r.Intn(2) == 0 {
				e.From = v.Vertex.ID
			}
			v.Edges = append(v.Edges, e)
			v.Labels = append(v.Labels, api.Named{ID: anyInt(r), Label: anyLabel(r)})
		}
		wantView(t, v)
		a, b := anyInt(r), anyInt(r)
		if l, e := strong.Labels(g); e != api.OK && (e != api.ErrStrong || len(l) != 0) {
			t.Fatal(l, e)
		}
		if l, e := strong.Components(g); e != api.OK && (e != api.ErrStrong || len(l) != 0) {
			t.Fatal(l, e)
		}
		if ok, e := strong.Reaches(g, a, b); e != api.OK && (e != api.ErrStrong || ok) {
			t.Fatal(ok, e)
		}
	}
}

// R4: no state is shared by calls, one after the other or at the same time (run with -race).
func TestParallel(t *testing.T) {
	g := pools()
	l := labelsOf(t, g)
	c, e := strong.Components(g)
	must(t, e)
	want := text(l) + text(c)
	v := viewOf(g, l, 15)
	var wg sync.WaitGroup
	for range 8 {
		wg.Go(func() {
			for range 50 {
				x, _ := strong.Labels(g)
				y, _ := strong.Components(g)
				strong.Labels(ring())
				if ok, _ := strong.Reaches(g, 3, 18); text(x)+text(y) != want || !strong.Good(v) || strong.Count(v) != 0 || !ok {
					t.Error("calls disturb each other")
				}
			}
		})
	}
	wg.Wait()
}
