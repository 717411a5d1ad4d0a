package page_test

import (
	"encoding/binary"
	"fmt"
	"math"
	"math/rand"
	"slices"
	"testing"

	"clearway/api"
)

// code returns the encodings of numbers by encoding/binary.
func code(l ...int) string {
	var b []byte
	for _, n := range l {
		b = binary.AppendVarint(b, int64(n))
	}
	return string(b)
}

// numbers returns the numbers whose encodings s consists of, if it does.
func numbers(s string) ([]int, bool) {
	var l []int
	for b := []byte(s); len(b) > 0; {
		n, size := binary.Varint(b)
		if size <= 0 || n > 1<<62-1 || n < -(1<<62-1) {
			return nil, false
		}
		l, b = append(l, int(n)), b[size:]
	}
	return l, code(l...) == s
}

// edgeNumbers returns the numbers of e on a page.
func edgeNumbers(e api.Edge) []int {
	directed := map[bool]int{false: 0, true: 1}[e.Directed]
	return []int{e.ID, e.From, e.To, directed, e.Weight, e.Cap}
}

// pageNumbers returns the numbers of the page of v in a graph with the edges l.
func pageNumbers(v api.Vertex, l []api.Edge) []int {
	count, rest := 0, []int(nil)
	for _, e := range l {
		if v.ID == e.From || v.ID == e.To {
			count++
			rest = append(rest, edgeNumbers(e)...)
		}
	}
	return append([]int{v.ID, v.Side, count}, rest...)
}

// headerNumbers returns the numbers of the header of g.
func headerNumbers(g api.Graph) []int {
	sum := 0
	for _, e := range g.Edges {
		sum |= 1 << e.ID
	}
	return append(append([]int{len(g.Depots)}, g.Depots...), sum)
}

// entriesOf returns the entries of the valid graph g.
func entriesOf(g api.Graph) []api.Entry {
	var l []api.Entry
	for _, v := range g.Vertices {
		l = append(l, api.Entry{Key: v.ID, Value: code(pageNumbers(v, g.Edges)...)})
	}
	return append(l, api.Entry{Key: 63, Value: code(headerNumbers(g)...)})
}

// in reports whether n is from least to most.
func in(n, least, most int) bool { return n >= least && n <= most }

// readPage returns what stands on the page s, if it is one: each condition for that is looked at by itself.
func readPage(s string) (api.Vertex, []api.Edge, bool) {
	l, ok := numbers(s)
	if !ok || len(l) < 3 || !in(l[0], 0, 23) || !in(l[1], 0, 3) || !in(l[2], 0, 40) || len(l) != 3+6*l[2] {
		return api.Vertex{}, nil, false
	}
	v := api.Vertex{ID: l[0], Side: l[1]}
	var edges []api.Edge
	for last, x := -1, l[3:]; len(x) > 0; x = x[6:] {
		e := api.Edge{ID: x[0], From: x[1], To: x[2], Directed: x[3] == 1, Weight: x[4], Cap: x[5]}
		if !in(e.ID, last+1, 39) || !in(e.From, 0, 23) || !in(e.To, 0, 23) || e.From != v.ID && e.To != v.ID || !in(x[3], 0, 1) || !in(e.Weight, -1000, 1000) || !in(e.Cap, 0, 1000) {
			return api.Vertex{}, nil, false
		}
		edges, last = append(edges, e), e.ID
	}
	return v, edges, true
}

// readHeader returns what stands in the header s, if it is one.
func readHeader(s string) ([]int, int, bool) {
	l, ok := numbers(s)
	if !ok || len(l) < 2 || !in(l[0], 0, 3) || len(l) != l[0]+2 || !in(l[len(l)-1], 0, 1<<40-1) {
		return nil, 0, false
	}
	d := l[1 : len(l)-1]
	for i, id := range d {
		if !in(id, 0, 23) || i > 0 && id <= d[i-1] {
			return nil, 0, false
		}
	}
	return d, l[len(l)-1], true
}

// join returns the graph whose entries l are, if there is one: each condition for that is looked at by itself.
func join(l []api.Entry) (api.Graph, bool) {
	none := api.Graph{}
	if len(l) == 0 || l[len(l)-1].Key != 63 {
		return none, false
	}
	depots, sum, ok := readHeader(l[len(l)-1].Value)
	if !ok {
		return none, false
	}
	g := api.Graph{Depots: depots}
	var seen [40][]api.Edge // as they stand in the pages
	for i, x := range l[:len(l)-1] {
		v, edges, ok := readPage(x.Value)
		if !ok || v.ID != x.Key || i > 0 && v.ID <= l[i-1].Key {
			return none, false
		}
		g.Vertices = append(g.Vertices, v)
		for _, e := range edges {
			seen[e.ID] = append(seen[e.ID], e)
		}
	}
	for id, pages := range seen {
		if (sum>>id&1 == 1) != (len(pages) > 0) {
			return none, false
		}
		if len(pages) == 0 {
			continue
		}
		e, want := pages[0], 2
		if e.From == e.To {
			want = 1
		}
		if len(pages) != want || pages[want-1] != e {
			return none, false
		}
		g.Edges = append(g.Edges, e)
	}
	for _, d := range depots {
		if !slices.ContainsFunc(g.Vertices, func(v api.Vertex) bool { return v.ID == d }) {
			return none, false
		}
	}
	return g, true
}

// text returns x as a text, in which nil and empty lists are equal.
func text(x any) string { return fmt.Sprintf("%+v", x) }

// example returns the graph of the chapter's examples.
func example() api.Graph {
	return api.Graph{
		Vertices: []api.Vertex{{ID: 0}, {ID: 2, Side: 1}},
		Edges:    []api.Edge{{ID: 1, From: 2, To: 0, Directed: true, Weight: 7, Cap: 1}, {ID: 3, From: 2, To: 2}},
		Depots:   []int{0},
	}
}

// full returns a graph with as many of everything as there may be, with loops and parallel edges, and with numbers at the edges.
func full() api.Graph {
	g := api.Graph{Depots: []int{0, 11, 23}}
	for id := range 24 {
		g.Vertices = append(g.Vertices, api.Vertex{ID: id, Side: id % 4})
	}
	for id := range 40 {
		g.Edges = append(g.Edges, api.Edge{ID: id, From: id * 7 % 24, To: id / 2 * 5 % 24, Directed: id%3 == 0, Weight: 1000 - 2000*(id%2), Cap: id % 5 * 250})
	}
	return g
}

// crowded returns a graph all of whose 40 edges are at the vertex 23, every second one a loop.
func crowded() api.Graph {
	g := api.Graph{Vertices: []api.Vertex{{ID: 5}, {ID: 23, Side: 3}}, Depots: []int{23}}
	for id := range 40 {
		g.Edges = append(g.Edges, api.Edge{ID: id, From: 23, To: 23 - 18*(id%2), Weight: 1000, Cap: 1000})
	}
	return g
}

// samples returns some valid graphs.
func samples() []api.Graph {
	r := rand.New(rand.NewSource(1))
	l := []api.Graph{{}, {Vertices: []api.Vertex{{ID: 23, Side: 3}}, Depots: []int{23}}, example(), full(), crowded()}
	for range 200 {
		l = append(l, randomGraph(r))
	}
	return l
}

// broken returns graphs that are not valid; in all of them are vertices and edges.
func broken() []api.Graph {
	var l []api.Graph
	for _, f := range []func(g *api.Graph){
		func(g *api.Graph) { g.Vertices[1].ID = 24 },
		func(g *api.Graph) { g.Vertices[0].ID = -1 },
		func(g *api.Graph) { g.Vertices[1].ID = 0 },
		func(g *api.Graph) { g.Vertices[0].Side = 4 },
		func(g *api.Graph) { g.Vertices[1].Side = -1 },
		func(g *api.Graph) { slices.Reverse(g.Vertices) },
		func(g *api.Graph) { g.Vertices = g.Vertices[:1] },
		func(g *api.Graph) { g.Edges[1].ID = 40 },
		func(g *api.Graph) { g.Edges[0].ID = -1 },
		func(g *api.Graph) { g.Edges[0].ID = math.MinInt },
		func(g *api.Graph) { g.Edges[1].ID = 1 },
		func(g *api.Graph) { slices.Reverse(g.Edges) },
		func(g *api.Graph) { g.Edges[0].From = 1 },
		func(g *api.Graph) { g.Edges[0].To = 24 },
		func(g *api.Graph) { g.Edges[0].Weight = 1001 },
		func(g *api.Graph) { g.Edges[0].Weight = math.MinInt },
		func(g *api.Graph) { g.Edges[1].Cap = -1 },
		func(g *api.Graph) { g.Edges[1].Cap = math.MaxInt },
		func(g *api.Graph) { g.Depots = []int{1} },
		func(g *api.Graph) { g.Depots = []int{0, 0} },
		func(g *api.Graph) { g.Depots = []int{2, 0} },
		func(g *api.Graph) { g.Depots = []int{-1} },
	} {
		g := example()
		f(&g)
		l = append(l, g)
	}
	g := full()
	g.Depots = []int{0, 1, 2, 3}
	return append(l, g)
}

// randomGraph returns a valid graph; most are small.
func randomGraph(r *rand.Rand) api.Graph {
	var g api.Graph
	ids := r.Perm(24)[:r.Intn(1+[]int{3, 6, 24}[r.Intn(3)])]
	slices.Sort(ids)
	for _, id := range ids {
		g.Vertices = append(g.Vertices, api.Vertex{ID: id, Side: r.Intn(4)})
		if len(g.Depots) < 3 && r.Intn(4) == 0 {
			g.Depots = append(g.Depots, id)
		}
	}
	if len(ids) == 0 {
		return g
	}
	edges := r.Perm(40)[:r.Intn(1+[]int{4, 10, 40}[r.Intn(3)])]
	slices.Sort(edges)
	for _, id := range edges {
		g.Edges = append(g.Edges, randomEdge(r, id, ids))
	}
	return g
}

// randomEdge returns an edge with the number id between two of the vertices ids.
func randomEdge(r *rand.Rand, id int, ids []int) api.Edge {
	return api.Edge{ID: id, From: ids[r.Intn(len(ids))], To: ids[r.Intn(len(ids))], Directed: r.Intn(2) == 0, Weight: r.Intn(2001) - 1000, Cap: r.Intn(1001)}
}

// randomLabels returns labels: of some vertices of g, and seldom of others.
func randomLabels(r *rand.Rand, g api.Graph) []api.Named {
	var l []api.Named
	for id := range 24 {
		there := slices.ContainsFunc(g.Vertices, func(v api.Vertex) bool { return v.ID == id })
		if there && r.Intn(6) > 0 || r.Intn(10) == 0 {
			l = append(l, api.Named{ID: id, Label: randomLabel(r)})
		}
	}
	return l
}

// randomLabel returns a label of any numbers.
func randomLabel(r *rand.Rand) []int {
	var l []int
	for range []int{0, 1, 2, 5, 64}[r.Intn(5)] {
		l = append(l, int(r.Uint64())>>r.Intn(64))
	}
	return l
}

// graphOf returns the graph with the vertices ids, the edges l and the depots d.
func graphOf(ids []int, l []api.Edge, d []int) api.Graph {
	g := api.Graph{Edges: l, Depots: d}
	for _, id := range ids {
		g.Vertices = append(g.Vertices, api.Vertex{ID: id})
	}
	return g
}

// must fails the test if e is an error.
func must(t *testing.T, e api.Errno) {
	t.Helper()
	if e != api.OK {
		t.Fatal("error", e)
	}
}
