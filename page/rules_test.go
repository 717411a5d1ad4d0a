package page_test

import (
	"math/rand"
	"slices"
	"sync"
	"testing"

	"clearway/api"
	"clearway/page"
)

// roomy returns a copy of l with spare capacity, which is filled with x.
func roomy[T any](l []T, x T) []T {
	return append(slices.Clone(l), x, x, x)[:len(l)]
}

// whole returns all that is in l and in its spare capacity.
func whole[T any](l []T) []T { return l[:cap(l)] }

// overwrite writes x to all of l and to its spare capacity.
func overwrite[T any](x T, lists ...[]T) {
	for _, l := range lists {
		for i := range whole(l) {
			whole(l)[i] = x
		}
	}
}

var (
	badVertex = api.Vertex{ID: 99, Side: 99}
	badEdge   = api.Edge{ID: 99, From: 99, To: 99, Directed: true, Weight: 99, Cap: 99}
)

// roomyGraph returns a copy of g whose lists have spare capacity.
func roomyGraph(g api.Graph) api.Graph {
	return api.Graph{Vertices: roomy(g.Vertices, badVertex), Edges: roomy(g.Edges, badEdge), Depots: roomy(g.Depots, 99)}
}

// roomyLabels returns a copy of l whose lists have spare capacity.
func roomyLabels(l []api.Named) []api.Named {
	out := roomy(l, api.Named{ID: 99})
	for i, x := range out {
		out[i].Label = roomy(x.Label, 99)
	}
	return out
}

// allOf returns a text of the graph and the labels with their spare capacities.
func allOf(g api.Graph, l []api.Named) string {
	s := text(whole(g.Vertices)) + text(whole(g.Edges)) + text(whole(g.Depots)) + text(whole(l))
	for _, x := range l {
		s += text(whole(x.Label))
	}
	return s
}

// spoilView overwrites all lists of w, and spoilGraph those of g.
func spoilView(w api.View) {
	for _, x := range w.Labels {
		overwrite(99, x.Label)
	}
	overwrite(99, w.Depots)
	overwrite(badEdge, w.Edges)
	overwrite(api.Named{ID: 99}, w.Labels)
}

func spoilGraph(g api.Graph) {
	overwrite(badVertex, g.Vertices)
	overwrite(badEdge, g.Edges)
	overwrite(99, g.Depots)
}

// R3: arguments are not changed, nor is their spare capacity; neither sees what is done to the other, nor to another result.
func TestMemory(t *testing.T) {
	r := rand.New(rand.NewSource(9))
	for range 3000 {
		g := roomyGraph(randomGraph(r))
		labels := roomyLabels(randomLabels(r, g))
		id := 0
		if len(g.Vertices) > 0 {
			id = g.Vertices[r.Intn(len(g.Vertices))].ID
		}
		before := allOf(g, labels)
		v, _ := page.View(g, labels, id)
		w, _ := page.View(g, labels, id)
		near := page.Neighbours(id, g.Edges)
		l, _ := page.Entries(g)
		entries := slices.Clone(l)
		roomyEntries := roomy(l, api.Entry{Key: 99, Value: "x"})
		page.Page(g, id)
		page.Root(g)
		a, _ := page.Join(roomyEntries)
		b, _ := page.Join(roomyEntries)
		same, want := text(a), text(v)
		spoilView(w)
		overwrite(99, near)
		overwrite(api.Entry{Key: 99}, l)
		spoilGraph(b)
		if allOf(g, labels) != before {
			t.Fatalf("arguments are changed: %+v, %v", g, labels)
		}
		if !slices.Equal(roomyEntries, entries) || whole(roomyEntries)[len(entries)].Key != 99 {
			t.Fatalf("entries are changed: %v", whole(roomyEntries))
		}
		overwrite(api.Entry{Key: 99}, roomyEntries)
		spoilGraph(g)
		for _, x := range labels {
			overwrite(99, x.Label)
		}
		if text(a) != same || text(v) != want {
			t.Fatalf("results share memory: %+v, %+v", a, v)
		}
	}
}

// R3: no two lists of a result share memory, nor do those of two results.
func TestMemoryWithinResults(t *testing.T) {
	g := full()
	l := entriesOf(g)
	a, _ := page.Join(l)
	overwrite(99, a.Depots)
	if !slices.Equal(a.Vertices, g.Vertices) || !slices.Equal(a.Edges, g.Edges) {
		t.Error(a)
	}
	var labels []api.Named
	for id := range 24 {
		labels = append(labels, api.Named{ID: id, Label: []int{id, 1}})
	}
	for id := range 24 {
		w, _ := page.View(g, labels, id)
		for i, x := range w.Labels {
			_ = append(x.Label, 99, 99, 99)
			overwrite(99, x.Label)
			for _, y := range w.Labels[i+1:] {
				if !slices.Equal(y.Label, []int{y.ID, 1}) {
					t.Fatal(y)
				}
			}
		}
	}
	for _, x := range l[:24] {
		_, p, _ := page.Parse(x.Value)
		_, q, _ := page.Parse(x.Value)
		overwrite(badEdge, p)
		_, want, _ := readPage(x.Value)
		if !slices.Equal(q, want) {
			t.Fatal(q)
		}
	}
	d, _, _ := page.Header(l[24].Value)
	overwrite(99, d)
	if d, _, _ := page.Header(l[24].Value); !slices.Equal(d, g.Depots) {
		t.Error(d)
	}
}

// R3: nil and empty lists are equivalent.
func TestEmptyLists(t *testing.T) {
	g := api.Graph{Vertices: []api.Vertex{{ID: 4}}}
	h := api.Graph{Vertices: []api.Vertex{{ID: 4}}, Edges: []api.Edge{}, Depots: []int{}}
	a, _ := page.Root(g)
	b, e := page.Root(h)
	if a != b || e != api.OK {
		t.Errorf("%x, %x, %d", a, b, e)
	}
	v, _ := page.View(g, []api.Named{{ID: 4}}, 4)
	w, e := page.View(h, []api.Named{{ID: 4, Label: []int{}}}, 4)
	if text(v) != text(w) || e != api.OK {
		t.Errorf("%+v, %+v, %d", v, w, e)
	}
	if _, e := page.View(h, []api.Named{}, 4); e != api.OK {
		t.Error(e)
	}
	if l := page.Neighbours(4, []api.Edge{}); len(l) != 0 {
		t.Error(l)
	}
	if _, e := page.Join([]api.Entry{}); e != api.ErrPage {
		t.Error(e)
	}
}

// anyInt returns a number, mostly a small one.
func anyInt(r *rand.Rand) int {
	if r.Intn(8) == 0 {
		return int(r.Uint64()) >> r.Intn(64)
	}
	return r.Intn(8) - 1
}

// R1: no call panics, whatever the arguments are; and valid graphs are those that have pages.
func TestArbitrary(t *testing.T) {
	r := rand.New(rand.NewSource(10))
	for range 20000 {
		var g api.Graph
		for range r.Intn(4) {
			g.Vertices = append(g.Vertices, api.Vertex{ID: anyInt(r), Side: anyInt(r)})
			g.Edges = append(g.Edges, api.Edge{ID: anyInt(r), From: anyInt(r), To: anyInt(r), Weight: anyInt(r), Cap: anyInt(r)})
		}
		if r.Intn(4) == 0 {
			g.Depots = []int{anyInt(r)}
		}
		id := anyInt(r)
		labels := []api.Named{{ID: anyInt(r), Label: []int{anyInt(r)}}, {ID: anyInt(r)}}
		l, e := page.Entries(g)
		h, f := page.Join(l)
		if e != f || e == api.OK && text(g) != text(h) {
			t.Fatalf("%+v, %d; %+v, %d", g, e, h, f)
		}
		_, e = page.Page(g, id)
		_, f = page.View(g, nil, id)
		if e != f {
			t.Fatalf("%+v, %d: %d, %d", g, id, e, f)
		}
		page.View(g, labels, id)
		page.Root(g)
		for _, n := range page.Neighbours(id, g.Edges) {
			if n == id {
				t.Fatalf("%d is its own neighbour: %+v", id, g)
			}
		}
		page.Join([]api.Entry{{Key: anyInt(r), Value: code(anyInt(r), anyInt(r), anyInt(r))}, {Key: 63, Value: code(anyInt(r), anyInt(r), anyInt(r))}})
	}
}

// R4: no state is shared by calls, one after the other or at the same time (run with -race).
func TestParallel(t *testing.T) {
	g := full()
	l := entriesOf(g)
	root, _ := page.Root(g)
	labels := []api.Named{{ID: 3, Label: []int{1}}, {ID: 7, Label: []int{2}}}
	want := text(viewOf(g, labels, g.Vertices[3]))
	var wg sync.WaitGroup
	for range 8 {
		wg.Go(func() {
			for range 20 {
				h, _ := page.Join(l)
				s, _ := page.Root(g)
				v, _ := page.View(g, labels, 3)
				page.Parse("\x80")
				page.Join(nil)
				if text(h) != text(g) || s != root || text(v) != want {
					t.Error("calls disturb each other")
				}
			}
		})
	}
	wg.Wait()
}
