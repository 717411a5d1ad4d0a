package graph_test

import (
	"math/rand"
	"slices"
	"sync"
	"testing"

	"clearway/api"
	"clearway/graph"
)

// roomy returns a copy of l with spare capacity, which is filled with x.
func roomy[T any](l []T, x T) []T {
	return append(slices.Clone(l), x, x, x)[:len(l)]
}

// roomyGraph returns a copy of g whose lists have spare capacity, and roomyChange one of c.
func roomyGraph(g api.Graph) api.Graph {
	return api.Graph{Vertices: roomy(g.Vertices, api.Vertex{ID: 77}), Edges: roomy(g.Edges, api.Edge{ID: 77}), Depots: roomy(g.Depots, 77)}
}

func roomyChange(c api.Change) api.Change {
	c.Ends, c.Depots = roomy(c.Ends, 77), roomy(c.Depots, 77)
	return c
}

// wholeGraph returns a copy of all that is in the lists of g and in their spare capacity, and wholeChange the same of c.
func wholeGraph(g api.Graph) api.Graph {
	return api.Graph{Vertices: slices.Clone(g.Vertices[:cap(g.Vertices)]), Edges: slices.Clone(g.Edges[:cap(g.Edges)]), Depots: slices.Clone(g.Depots[:cap(g.Depots)])}
}

func wholeChange(c api.Change) api.Change {
	c.Ends, c.Depots = slices.Clone(c.Ends[:cap(c.Ends)]), slices.Clone(c.Depots[:cap(c.Depots)])
	return c
}

// overwrite writes x to all of l and to its spare capacity.
func overwrite[T any](l []T, x T) {
	l = l[:cap(l)]
	for i := range l {
		l[i] = x
	}
}

// spoilGraph overwrites the lists of g, and spoilChange those of c.
func spoilGraph(g api.Graph) {
	overwrite(g.Vertices, api.Vertex{ID: 99, Side: 99})
	overwrite(g.Edges, api.Edge{ID: 99, From: 99, To: 99})
	overwrite(g.Depots, 99)
}

func spoilChange(c api.Change) {
	overwrite(c.Ends, 99)
	overwrite(c.Depots, 99)
}

// R3: arguments are not changed, nor is their spare capacity; and results share no memory with arguments: neither sees what is done to the other.
func TestMemory(t *testing.T) {
	r := rand.New(rand.NewSource(10))
	for range 20000 {
		g := roomyGraph(randomGraph(r))
		c := roomyChange(randomChange(r, g))
		l := roomy([]api.Change{c}, api.Change{Kind: 77})
		m := modelOf(g)
		undo, ok := m.act(c)
		want := m.graph()
		before, change := wholeGraph(g), wholeChange(c)
		a, _ := graph.Apply(g, c)
		b, _, _ := graph.ApplyAll(g, l)
		same, _, _ := graph.ApplyAll(g, nil)
		inv, _ := graph.Invert(g, c)
		at := graph.At(g, c.ID)
		edges := slices.Clone(at)
		graph.Valid(g)
		graph.Same(g, a)
		graph.Encode(g)
		graph.EncodeChange(c)
		check := func(what string) {
			t.Helper()
			if !equal(wholeGraph(g), before) || !equal(wholeChange(c), change) || l[:2][1].Kind != 77 {
				t.Fatalf("%s: arguments are changed: %v, %v", what, g, c)
			}
		}
		check("called")
		spoilGraph(a)
		spoilGraph(same)
		overwrite(at, api.Edge{ID: 99})
		for _, x := range inv {
			spoilChange(x)
		}
		check("results are overwritten")
		if ok && !equal(b, want) {
			t.Fatalf("two results of ApplyAll and Apply share memory")
		}
		inv, _ = graph.Invert(g, c)
		at = graph.At(g, c.ID)
		spoilGraph(g)
		spoilChange(c)
		if ok && (!equal(b, want) || len(inv) != 1 || !equal(inv[0], undo)) || !slices.Equal(at, edges) {
			t.Fatalf("results share memory with arguments: %v, %v, %v", b, inv, at)
		}
	}
}

// R3: lists within a decoded result share no memory, nor do those of two results.
func TestDecodedMemory(t *testing.T) {
	c := api.Change{Kind: 8, Ends: []int{1, 2, 3}, Depots: []int{4, 5}}
	for range 20 {
		s := code(changeNumbers(c)...)
		a, _, _ := graph.DecodeChange(s, 0)
		b, _, _ := graph.DecodeChange(s, 0)
		overwrite(a.Ends, 99)
		if !slices.Equal(a.Depots, c.Depots) || !equal(b, c) {
			t.Fatalf("%v, %v", a, b)
		}
		overwrite(b.Depots, 99)
		if !slices.Equal(b.Ends, c.Ends) {
			t.Fatalf("%v", b)
		}
		c.Ends = append(c.Ends, len(c.Ends))
	}
	s := code(graphNumbers(full())...)
	g, _, _ := graph.Decode(s, 0)
	h, _, _ := graph.Decode(s, 0)
	spoilGraph(g)
	if !equal(h, full()) {
		t.Fatalf("%v", h)
	}
}

// R4: the results depend on the arguments alone, whatever was called before.
func TestRepeated(t *testing.T) {
	r := rand.New(rand.NewSource(11))
	for range 300 {
		g := randomGraph(r)
		c := randomChange(r, g)
		a, n, e := graph.ApplyAll(g, []api.Change{c, c})
		u, f := graph.EncodeChange(c)
		for range 5 {
			wantChange(t, g, c)
			if b, m, d := graph.ApplyAll(g, []api.Change{c, c}); !equal(a, b) || n != m || e != d {
				t.Fatalf("%v, then %v", a, b)
			}
			if v, d := graph.EncodeChange(c); u != v || f != d {
				t.Fatalf("%x, then %x", u, v)
			}
			noGraphAt(t, "\x02", 0)
			noChangeAt(t, u, len(u))
		}
	}
}

// R4: no state is shared by calls at the same time (run with -race).
func TestParallel(t *testing.T) {
	g := full()
	s := code(graphNumbers(g)...)
	c := api.Change{Kind: api.CContract, ID: 3, N: 0}
	want, _ := graph.Apply(g, c)
	var wg sync.WaitGroup
	for range 8 {
		wg.Go(func() {
			for range 100 {
				a, _ := graph.Apply(g, c)
				h, _, _ := graph.Decode(s, 0)
				if !equal(a, want) || !equal(h, g) || !graph.Same(h, g) {
					t.Error("calls at the same time disturb each other")
				}
			}
		})
	}
	wg.Wait()
}

// R1: no call panics, whatever the arguments are.
func TestArbitrary(t *testing.T) {
	r := rand.New(rand.NewSource(12))
	for range 20000 {
		g := randomGraph(r)
		for range r.Intn(3) {
			n := number(r)
			switch k := r.Intn(8); {
			case k < 2 && len(g.Vertices) > 0:
				g.Vertices[r.Intn(len(g.Vertices))] = api.Vertex{ID: n, Side: number(r)}
			case k < 6 && len(g.Edges) > 0:
				g.Edges[r.Intn(len(g.Edges))] = api.Edge{ID: n, From: number(r), To: number(r), Weight: number(r), Cap: number(r)}
			default:
				g.Depots = append(g.Depots, n)
			}
		}
		valid := graph.Valid(g)
		c := api.Change{Kind: r.Intn(12), Vertex: api.Vertex{ID: number(r), Side: number(r)}, Edge: api.Edge{ID: number(r), From: number(r), To: number(r), Weight: number(r), Cap: number(r)}, ID: number(r), N: number(r), Ends: []int{number(r), number(r)}, Depots: []int{number(r)}}
		for _, d := range []api.Change{c, plain(c)} {
			if valid {
				wantChange(t, g, d)
			} else if a, e := graph.Apply(g, d); e != api.ErrGraph || !equal(a, api.Graph{}) {
				t.Fatalf("Apply(%v, %v) = %v, %d", g, d, a, e)
			}
			graph.EncodeChange(d)
		}
		if !graph.Same(g, g) {
			t.Fatalf("%v is not the same as itself", g)
		}
		for _, e := range graph.At(g, c.ID) {
			if n := graph.Other(e, c.ID); n != e.From && n != e.To {
				t.Fatalf("Other(%v, %d) = %d", e, c.ID, n)
			}
		}
	}
}
