package forest_test

import (
	"math/rand"
	"slices"
	"sync"
	"testing"

	"clearway/api"
	"clearway/forest"
)

// roomy returns a copy of l with spare capacity, which is filled with x.
func roomy[T any](l []T, x T) []T {
	return append(slices.Clone(l), x, x, x)[:len(l)]
}

// allOf returns a text of the lists with their spare capacities.
func allOf[T any](lists ...[]T) string {
	s := ""
	for _, l := range lists {
		s += text(l[:cap(l)]) + text(len(l))
	}
	return s
}

// overwrite writes x to all of l, and to its spare capacity.
func overwrite[T any](x T, l []T) {
	for i := range l[:cap(l)] {
		l[:cap(l)][i] = x
	}
}

// roomyGraph returns a copy of g whose lists have spare capacity.
func roomyGraph(g api.Graph) api.Graph {
	return api.Graph{Vertices: roomy(g.Vertices, api.Vertex{ID: 99}), Edges: roomy(g.Edges, api.Edge{ID: 99}), Depots: roomy(g.Depots, 99)}
}

// graphText returns a text of the lists of g with their spare capacities.
func graphText(g api.Graph) string {
	return allOf(g.Vertices) + allOf(g.Edges) + allOf(g.Depots)
}

// viewText does the same for a view.
func viewText(v api.View) string {
	s := allOf(v.Edges) + allOf(v.Depots) + allOf(v.Labels)
	for _, x := range v.Labels {
		s += allOf(x.Label)
	}
	return s
}

// R3: arguments are not changed, nor is their spare capacity.
func TestArgumentsStay(t *testing.T) {
	r := rand.New(rand.NewSource(8))
	for range 2000 {
		g := roomyGraph(randomGraph(r))
		before := graphText(g)
		a, b := g.Vertices[r.Intn(len(g.Vertices))].ID, g.Vertices[r.Intn(len(g.Vertices))].ID
		l, _ := forest.Labels(g)
		v := viewOf(g, l, a)
		v.Edges, v.Depots, v.Labels = roomy(v.Edges, api.Edge{ID: 99}), roomy(v.Depots, 99), roomy(v.Labels, api.Named{ID: 99})
		for i, x := range v.Labels {
			v.Labels[i].Label = roomy(x.Label, 99)
		}
		seen := viewText(v)
		forest.Good(v)
		forest.Count(v)
		forest.Connected(g, a, b)
		path, _ := forest.Path(g, a, b)
		side, _ := forest.Side(g, a)
		path, side = roomy(path, 99), roomy(side, 99)
		lists := allOf(path, side)
		forest.CheckPath(g, a, b, path)
		forest.CheckSide(g, a, b, side)
		forest.CheckPath(g, b, a, side)
		forest.CheckSide(g, b, a, path)
		if graphText(g) != before || viewText(v) != seen || allOf(path, side) != lists {
			t.Fatalf("arguments are changed: %+v, %+v, %v, %v", g, v, path, side)
		}
	}
}

// R3: results are new memory, and no two lists of a result share any.
func TestResultsAreNew(t *testing.T) {
	r := rand.New(rand.NewSource(9))
	for range 1000 {
		g := randomGraph(r)
		h := roomyGraph(g)
		a, b := g.Vertices[r.Intn(len(g.Vertices))].ID, g.Vertices[r.Intn(len(g.Vertices))].ID
		wantLabels, _ := forest.Labels(g)
		wantPath, _ := forest.Path(g, a, b)
		wantSide, _ := forest.Side(g, a)
		want := text(wantLabels) + text(wantPath) + text(wantSide)
		for range 2 {
			l, _ := forest.Labels(h)
			path, _ := forest.Path(h, a, b)
			side, _ := forest.Side(h, a)
			if text(l)+text(path)+text(side) != want {
				t.Fatalf("%+v: %v, %v, %v", g, l, path, side)
			}
			for i, x := range l {
				overwrite(99, x.Label)
				for k, y := range l[i+1:] {
					if !slices.Equal(y.Label, wantLabels[i+1+k].Label) {
						t.Fatalf("%+v: the labels of %d and %d share memory", g, x.ID, y.ID)
					}
				}
			}
			overwrite(api.Named{}, l)
			overwrite(99, path)
			overwrite(99, side)
		}
		if graphText(h) != graphText(roomyGraph(g)) {
			t.Fatalf("results share memory with %+v", g)
		}
	}
}

// R3: nil and empty lists are equivalent.
func TestEmptyLists(t *testing.T) {
	g := api.Graph{Vertices: []api.Vertex{{ID: 4}}, Edges: []api.Edge{}, Depots: []int{}}
	h := api.Graph{Vertices: []api.Vertex{}, Edges: []api.Edge{}, Depots: []int{}}
	if l, e := forest.Labels(g); e != api.OK || text(l) != "[{ID:4 Label:[4 0 -1]}]" {
		t.Error(l, e)
	}
	for _, x := range []api.Graph{h, {}} {
		if l, e := forest.Labels(x); e != api.OK || len(l) != 0 {
			t.Error(l, e)
		}
		if l, e := forest.Side(x, 0); e != api.ErrForest || len(l) != 0 {
			t.Error(l, e)
		}
	}
	if !forest.CheckPath(g, 4, 4, []int{}) || !forest.CheckPath(g, 4, 4, nil) || forest.CheckSide(g, 4, 4, []int{}) {
		t.Error("checks")
	}
	v := api.View{Vertex: api.Vertex{ID: 4}, Edges: []api.Edge{}, Labels: []api.Named{{ID: 4, Label: []int{4, 0, -1}}}}
	if !forest.Good(v) || forest.Good(api.View{Labels: []api.Named{}}) || forest.Good(api.View{}) || forest.Count(api.View{}) != 0 {
		t.Error("views")
	}
}

// anyInt returns a number, mostly a small one.
func anyInt(r *rand.Rand) int {
	if r.Intn(8) == 0 {
		return int(r.Uint64()) >> r.Intn(64)
	}
	return r.Intn(8) - 1
}

// R1, R2: no call panics, whatever the arguments are, and errors come without values.
func TestArbitrary(t *testing.T) {
	r := rand.New(rand.NewSource(10))
	for range 30000 {
		var g api.Graph
		var path []int
		v := api.View{Vertex: api.Vertex{ID: anyInt(r)}}
		for range r.Intn(5) {
			e := api.Edge{ID: anyInt(r), From: anyInt(r), To: anyInt(r), Weight: anyInt(r), Cap: anyInt(r)}
			g.Vertices = append(g.Vertices, api.Vertex{ID: anyInt(r), Side: anyInt(r)})
			g.Edges = append(g.Edges, e)
			if r.Intn(2) == 0 {
				e.From = v.Vertex.ID
			}
			v.Edges = append(v.Edges, e)
			v.Labels = append(v.Labels, api.Named{ID: anyInt(r), Label: []int{anyInt(r), anyInt(r), anyInt(r), anyInt(r)}[:3*r.Intn(2)+r.Intn(2)]})
			path = append(path, anyInt(r))
		}
		wantView(t, v)
		a, b := anyInt(r), anyInt(r)
		forest.CheckPath(g, a, b, path)
		forest.CheckSide(g, a, b, path)
		if l, e := forest.Labels(g); e != api.OK && (e != api.ErrForest || len(l) != 0) {
			t.Fatal(l, e)
		}
		if ok, e := forest.Connected(g, a, b); e != api.OK && (e != api.ErrForest || ok) {
			t.Fatal(ok, e)
		}
		if l, e := forest.Path(g, a, b); e != api.OK && (e != api.ErrForest || len(l) != 0) {
			t.Fatal(l, e)
		}
		if l, e := forest.Side(g, a); e != api.OK && (e != api.ErrForest || len(l) != 0) {
			t.Fatal(l, e)
		}
	}
}

// R4: no state is shared by calls, one after the other or at the same time (run with -race).
func TestParallel(t *testing.T) {
	g := ladder()
	l, _ := forest.Labels(g)
	path, _ := forest.Path(g, 3, 21)
	want := text(l) + text(path)
	v := viewOf(g, l, 7)
	var wg sync.WaitGroup
	for range 8 {
		wg.Go(func() {
			for range 50 {
				x, _ := forest.Labels(g)
				p, _ := forest.Path(g, 3, 21)
				forest.Labels(line())
				if text(x)+text(p) != want || !forest.Good(v) || !forest.CheckPath(g, 3, 21, p) {
					t.Error("calls disturb each other")
				}
			}
		})
	}
	wg.Wait()
}
