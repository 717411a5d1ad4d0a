package blossom_test

import (
	"math/rand"
	"slices"
	"sync"
	"testing"

	"clearway/api"
	"clearway/blossom"
)

// roomy returns a copy of l with spare capacity, which is filled with x.
func roomy[T any](l []T, x T) []T {
	return append(slices.Clone(l), x, x, x)[:len(l)]
}

// allOf returns a text of the lists with their spare capacities.
func allOf[T any](lists ...[]T) string {
	s := ""
	for _, l := range lists {
		s += text(l[:cap(l)]) + text(len(l))
	}
	return s
}

// overwrite writes x to all of l, and to its spare capacity.
func overwrite[T any](x T, l []T) {
	for i := range l[:cap(l)] {
		l[:cap(l)][i] = x
	}
}

// roomyGraph returns a copy of g whose lists have spare capacity.
func roomyGraph(g api.Graph) api.Graph {
	return api.Graph{Vertices: roomy(g.Vertices, api.Vertex{ID: 99}), Edges: roomy(g.Edges, api.Edge{ID: 99}), Depots: roomy(g.Depots, 99)}
}

// graphText returns a text of the lists of g with their spare capacities.
func graphText(g api.Graph) string {
	return allOf(g.Vertices) + allOf(g.Edges) + allOf(g.Depots)
}

// viewText does the same for a view.
func viewText(v api.View) string {
	s := allOf(v.Edges) + allOf(v.Depots) + allOf(v.Labels)
	for _, x := range v.Labels {
		s += allOf(x.Label)
	}
	return s
}

// R3: arguments are not changed, nor is their spare capacity.
func TestArgumentsStay(t *testing.T) {
	r := rand.New(rand.NewSource(8))
	for range 1500 {
		g := roomyGraph([]func(*rand.Rand) api.Graph{randomGraph, crowd, garden}[r.Intn(3)](r))
		before := graphText(g)
		id := g.Vertices[r.Intn(len(g.Vertices))].ID
		v := viewOf(g, labelsOf(t, g), id)
		matchingOf(t, g)
		dualsOf(t, g)
		v.Edges, v.Depots, v.Labels = roomy(v.Edges, api.Edge{ID: 99}), roomy(v.Depots, 99), roomy(v.Labels, api.Named{ID: 99})
		for i, x := range v.Labels {
			v.Labels[i].Label = roomy(x.Label, 99)
		}
		seen := viewText(v)
		blossom.Good(v)
		blossom.Count(v)
		if graphText(g) != before || viewText(v) != seen {
			t.Fatalf("arguments are changed: %+v, %+v", g, v)
		}
	}
}

// R3: results are new memory, and no two lists of a result share any.
func TestResultsAreNew(t *testing.T) {
	for _, m := range slices.Concat(samples()[:300], samples()[len(samples())-300:]) {
		h := roomyGraph(m.g)
		labels, dual := m.labels(), m.dual()
		for range 2 {
			l := labelsOf(t, h)
			if text(l) != text(labels) {
				t.Fatalf("%+v: %v", m.g, l)
			}
			for i, x := range l {
				overwrite(99, x.Label)
				for k, y := range l[i+1:] {
					if !slices.Equal(y.Label, labels[i+1+k].Label) {
						t.Fatalf("%+v: the labels of %d and %d share memory", m.g, x.ID, y.ID)
					}
				}
			}
			overwrite(api.Named{}, l)
			ids := matchingOf(t, h)
			if !slices.Equal(ids, m.edges) {
				t.Fatalf("%+v: %v", m.g, ids)
			}
			overwrite(99, ids)
			d := dualsOf(t, h)
			overwrite(99, d.Duals)
			for i, o := range d.Odds {
				if o.Dual != dual.Odds[i].Dual || !slices.Equal(o.Members, dual.Odds[i].Members) {
					t.Fatalf("%+v: %v, not %v", m.g, o, dual.Odds[i])
				}
				overwrite(99, o.Members)
			}
			overwrite(api.Odd{}, d.Odds)
			if text(dualsOf(t, h)) != text(dual) {
				t.Fatalf("%+v: %v", m.g, dual)
			}
		}
		if graphText(h) != graphText(roomyGraph(m.g)) {
			t.Fatalf("results share memory with %+v", m.g)
		}
	}
}

// R3: nil and empty lists are equivalent.
func TestEmptyLists(t *testing.T) {
	for _, g := range []api.Graph{{}, {Vertices: []api.Vertex{}, Edges: []api.Edge{}, Depots: []int{}}} {
		wantLabels(t, g)
		wantMatching(t, g)
		wantDuals(t, g, nil)
	}
	for _, g := range []api.Graph{{Vertices: []api.Vertex{{ID: 4, Side: 2}}}, {Vertices: []api.Vertex{{ID: 4, Side: 2}}, Edges: []api.Edge{}, Depots: []int{}}} {
		wantLabels(t, g, []int{-1, 0})
		wantMatching(t, g)
		wantDuals(t, g, []int{0})
	}
	for _, v := range []api.View{{Labels: []api.Named{{Label: []int{-1, 0}}}}, {Depots: []int{}, Edges: []api.Edge{}, Labels: []api.Named{{Label: []int{-1, 0}}}}} {
		if !blossom.Good(v) || blossom.Count(v) != 0 {
			t.Error(v)
		}
	}
	for _, v := range []api.View{{}, {Labels: []api.Named{}}, {Labels: []api.Named{{}}}, {Labels: []api.Named{{Label: []int{}}}}} {
		if blossom.Good(v) || blossom.Count(v) != 0 {
			t.Error("views without labels", v)
		}
	}
}

// anyInt returns a number, mostly a small one.
func anyInt(r *rand.Rand) int {
	if r.Intn(8) == 0 {
		return int(r.Uint64()) >> r.Intn(64)
	}
	return r.Intn(6) - 1
}

// anyInts returns a list of so many numbers, or now and then of others.
func anyInts(r *rand.Rand, n int) []int {
	if r.Intn(8) == 0 {
		n = r.Intn(60)
	}
	var l []int
	for range n {
		l = append(l, anyInt(r))
	}
	return l
}

// R1, R2: no call panics, whatever the arguments are, and errors come without values.
func TestArbitrary(t *testing.T) {
	r := rand.New(rand.NewSource(10))
	for range 50000 {
		g := api.Graph{Depots: anyInts(r, r.Intn(2))}
		v := api.View{Vertex: api.Vertex{ID: anyInt(r), Side: anyInt(r)}, Depots: anyInts(r, 3)}
		for range r.Intn(5) {
			e := api.Edge{ID: anyInt(r), From: anyInt(r), To: anyInt(r), Directed: r.Intn(2) == 0, Weight: anyInt(r), Cap: anyInt(r)}
			g.Vertices = append(g.Vertices, api.Vertex{ID: anyInt(r), Side: anyInt(r)})
			g.Edges = append(g.Edges, e)
			if n := blossom.Price(e); n != 0 && (e.ID < 0 || e.ID > 39 || max(e.Weight, -e.Weight) > 1000 || n != priceOf(e)) {
				t.Fatal(e, n)
			}
			if r.Intn(2) == 0 {
				e.From = v.Vertex.ID
			}
			v.Edges = append(v.Edges, e)
			v.Labels = append(v.Labels, api.Named{ID: anyInt(r), Label: anyInts(r, 2+4*r.Intn(3))})
		}
		wantView(t, v)
		if l, e := blossom.Labels(g); e != api.OK {
			if e != api.ErrBlossom || len(l) != 0 {
				t.Fatal(l, e)
			}
			wantNothing(t, g)
		}
	}
}

// R4: no state is shared by calls, one after the other or at the same time (run with -race).
func TestParallel(t *testing.T) {
	g := onion(40)
	m := modelOf(g)
	labels, dual := text(m.labels()), text(m.dual())
	v := viewOf(g, m.labels(), 11)
	var wg sync.WaitGroup
	for range 8 {
		wg.Go(func() {
			for range 50 {
				l, _ := blossom.Labels(g)
				blossom.Labels(example())
				d, _ := blossom.Duals(g)
				blossom.Duals(example())
				ids, _ := blossom.Matching(g)
				few, _ := blossom.Matching(example())
				if text(l) != labels || text(d) != dual || !blossom.Good(v) || blossom.Count(v) != countOf(v) || !slices.Equal(ids, m.edges) || len(few) != 2 {
					t.Error("calls disturb each other")
				}
			}
		})
	}
	wg.Wait()
}
