package trade_test

import (
	"math/rand"
	"slices"
	"sync"
	"testing"

	"clearway/api"
	"clearway/trade"
)

// roomy returns a copy of l with spare capacity, which is filled with x.
func roomy[T any](l []T, x T) []T {
	return append(slices.Clone(l), x, x, x)[:len(l)]
}

// allOf returns a text of the lists with their spare capacities.
func allOf[T any](lists ...[]T) string {
	s := ""
	for _, l := range lists {
		s += text(l[:cap(l)]) + text(len(l))
	}
	return s
}

// overwrite writes x to all of l, and to its spare capacity.
func overwrite[T any](x T, l []T) {
	for i := range l[:cap(l)] {
		l[:cap(l)][i] = x
	}
}

// roomyGraph returns a copy of g whose lists have spare capacity.
func roomyGraph(g api.Graph) api.Graph {
	return api.Graph{Vertices: roomy(g.Vertices, api.Vertex{ID: 99}), Edges: roomy(g.Edges, api.Edge{ID: 99}), Depots: roomy(g.Depots, 99)}
}

// graphText returns a text of the lists of g with their spare capacities.
func graphText(g api.Graph) string {
	return allOf(g.Vertices) + allOf(g.Edges) + allOf(g.Depots)
}

// viewText does the same for a view.
func viewText(v api.View) string {
	s := allOf(v.Edges) + allOf(v.Depots) + allOf(v.Labels)
	for _, x := range v.Labels {
		s += allOf(x.Label)
	}
	return s
}

// R3: arguments are not changed, nor is their spare capacity.
func TestArgumentsStay(t *testing.T) {
	r := rand.New(rand.NewSource(10))
	for range 1500 {
		g := roomyGraph(randomGraph(r))
		before := graphText(g)
		id := g.Vertices[r.Intn(len(g.Vertices))].ID
		v := viewOf(g, labelsOf(t, g), id)
		roundsOf(t, g)
		trade.Prefers(g, id, r.Intn(41)-1, r.Intn(41)-1)
		v.Edges, v.Depots, v.Labels = roomy(v.Edges, api.Edge{ID: 99}), roomy(v.Depots, 99), roomy(v.Labels, api.Named{ID: 99})
		for i, x := range v.Labels {
			v.Labels[i].Label = roomy(x.Label, 99)
		}
		seen := viewText(v)
		trade.Good(v)
		trade.Count(v)
		if graphText(g) != before || viewText(v) != seen {
			t.Fatalf("arguments are changed: %+v, %+v", g, v)
		}
	}
}

// R3: results are new memory, and no two lists of a result share any.
func TestResultsAreNew(t *testing.T) {
	r := rand.New(rand.NewSource(11))
	for range 400 {
		g := crowd(r)
		h := roomyGraph(g)
		m := modelOf(g)
		labels := m.labels()
		for range 2 {
			l := labelsOf(t, h)
			if text(l) != text(labels) {
				t.Fatalf("%+v: %v", g, l)
			}
			for i, x := range l {
				overwrite(99, x.Label)
				for k, y := range l[i+1:] {
					if !slices.Equal(y.Label, labels[i+1+k].Label) {
						t.Fatalf("%+v: the labels of %d and %d share memory", g, x.ID, y.ID)
					}
				}
			}
			overwrite(api.Named{}, l)
			rounds := roundsOf(t, h)
			if text(rounds) != text(m.rounds) {
				t.Fatalf("%+v: %v", g, rounds)
			}
			for i, x := range rounds {
				overwrite(99, x)
				if text(rounds[i+1:]) != text(m.rounds[i+1:]) {
					t.Fatalf("%+v: the rounds share memory: %v", g, rounds)
				}
			}
			overwrite(nil, rounds)
		}
		if graphText(h) != graphText(roomyGraph(g)) {
			t.Fatalf("results share memory with %+v", g)
		}
	}
}

// R3: nil and empty lists are equivalent.
func TestEmptyLists(t *testing.T) {
	for _, g := range []api.Graph{{}, {Vertices: []api.Vertex{}, Edges: []api.Edge{}, Depots: []int{}}} {
		wantLabels(t, g)
		wantRounds(t, g)
		wantNoPrefers(t, g, 0, -1, -1)
	}
	for _, g := range []api.Graph{{Vertices: []api.Vertex{{ID: 4, Side: 3}}}, {Vertices: []api.Vertex{{ID: 4, Side: 3}}, Edges: []api.Edge{}, Depots: []int{}}} {
		wantLabels(t, g, []int{1, -1, 0})
		wantRounds(t, g, []int{4})
		wantPrefers(t, g, 4, -1, -1, false)
	}
	for _, v := range []api.View{{Labels: []api.Named{{Label: []int{0, -1, 0}}}}, {Depots: []int{}, Edges: []api.Edge{}, Labels: []api.Named{{Label: []int{0, -1, 0}}}}} {
		if !trade.Good(v) || trade.Count(v) != 0 {
			t.Error(v)
		}
	}
	for side := range 4 {
		x := api.Vertex{Side: side}
		for _, v := range []api.View{{Vertex: x}, {Vertex: x, Labels: []api.Named{}}, {Vertex: x, Labels: []api.Named{{}}}, {Vertex: x, Labels: []api.Named{{Label: []int{}}}}} {
			if trade.Good(v) || trade.Count(v) != 0 {
				t.Error("views without labels", v)
			}
		}
	}
}

// anyInt returns a number, mostly a small one.
func anyInt(r *rand.Rand) int {
	if r.Intn(8) == 0 {
		return int(r.Uint64()) >> r.Intn(64)
	}
	return r.Intn(6) - 1
}

// anyInts returns a list of so many numbers, or now and then of others.
func anyInts(r *rand.Rand, n int) []int {
	if r.Intn(8) == 0 {
		n = r.Intn(40)
	}
	var l []int
	for range n {
		l = append(l, anyInt(r))
	}
	return l
}

// R1, R2: no call panics, whatever the arguments are, and errors come without values.
func TestArbitrary(t *testing.T) {
	r := rand.New(rand.NewSource(12))
	for range 50000 {
		g := api.Graph{Depots: anyInts(r, r.Intn(2))}
		v := api.View{Vertex: api.Vertex{ID: anyInt(r), Side: []int{3, anyInt(r)}[r.Intn(2)]}, Depots: anyInts(r, 3)}
		for range r.Intn(5) {
			e := api.Edge{ID: anyInt(r), From: anyInt(r), To: anyInt(r), Directed: r.Intn(4) > 0, Weight: anyInt(r), Cap: anyInt(r)}
			g.Vertices = append(g.Vertices, api.Vertex{ID: anyInt(r), Side: anyInt(r)})
			g.Edges = append(g.Edges, e)
			if r.Intn(2) == 0 {
				e.From = v.Vertex.ID
			}
			v.Edges = append(v.Edges, e)
			v.Labels = append(v.Labels, api.Named{ID: anyInt(r), Label: anyInts(r, 3)})
		}
		wantView(t, v)
		if is, e := trade.Prefers(g, anyInt(r), anyInt(r), anyInt(r)); is && e != api.OK {
			t.Fatal(is, e)
		}
		if l, e := trade.Labels(g); e != api.OK {
			if e != api.ErrTrade || len(l) != 0 {
				t.Fatal(l, e)
			}
			rounds, e := trade.Rounds(g)
			if is, f := trade.Prefers(g, anyInt(r), -1, -1); e != api.ErrTrade || len(rounds) != 0 || is || f != api.ErrTrade {
				t.Fatal(rounds, e, is, f)
			}
		}
	}
}

// R4: no state is shared by calls, one after the other or at the same time (run with -race).
func TestParallel(t *testing.T) {
	g := pairs(12)
	m := modelOf(g)
	want := text(labelsOf(t, g))
	v := viewOf(g, labelsOf(t, g), 11)
	var wg sync.WaitGroup
	for range 8 {
		wg.Go(func() {
			for range 50 {
				l, _ := trade.Labels(g)
				trade.Labels(example())
				rounds, _ := trade.Rounds(g)
				few, _ := trade.Rounds(example())
				is, _ := trade.Prefers(example(), 1, 2, 1)
				if text(l) != want || !trade.Good(v) || trade.Count(v) != 1 || text(rounds) != text(m.rounds) || len(few) != 2 || !is {
					t.Error("calls disturb each other")
				}
			}
		})
	}
	wg.Wait()
}
