package page

import (
	"cmp"
	"maps"
	"slices"

	"clearway/api"
	"clearway/graph"
	"clearway/wire"
)

// text is a string that consists of encodings of numbers.
type text string

// numberAt returns the number whose encoding begins at the offset at, and the offset after it. Where there is none, it gives up by a panic, so that nobody has to ask after each number whether there was one.
func (t text) numberAt(at int) (int, int) {
	n, next, e := wire.Int(string(t), at)
	if e != api.OK {
		panic(e)
	}
	return n, next
}

// reader reads the numbers of a text, one after the other, from the offset at on.
type reader struct {
	text
	at int
}

// sheet is what stands on a page: a vertex, and the edges at it.
type sheet struct {
	api.Vertex
	edges []api.Edge
}

// heading is what stands in a header: the depots, and the sum that tells the numbers of the edges.
type heading struct {
	depots []int
	sum    int
}

// Parse returns the vertex and the edges of the page s.
func Parse(s string) (api.Vertex, []api.Edge, api.Errno) {
	p, ok := read(s, (*reader).sheet)
	// If s is the page of a vertex of any valid graph, then also in the smallest one that has this vertex and these edges.
	again, e := Page(p.graph(), p.ID)
	if !ok || e != api.OK || again != s {
		return api.Vertex{}, nil, api.ErrPage
	}
	return p.Vertex, p.edges, api.OK
}

// Header returns the depots and the sum of the header s.
func Header(s string) ([]int, int, api.Errno) {
	h, ok := read(s, (*reader).heading)
	// If s is the header of any valid graph, then also of one with all vertices, and with loops as edges.
	g := h.graph()
	if !ok || !graph.Valid(g) || header(g) != s {
		return nil, 0, api.ErrPage
	}
	return h.depots, h.sum, api.OK
}

// Join returns the valid graph whose entries l are.
func Join(l []api.Entry) (api.Graph, api.Errno) {
	g := joined(l)
	if again, e := Entries(g); e != api.OK || !slices.Equal(again, l) {
		return api.Graph{}, api.ErrPage
	}
	return g, api.OK
}

// joined returns the graph whose entries l are; or, if there is none, what stands in those pages and headers that can be read. (The entries of that are others, whatever is wrong with l.)
func joined(l []api.Entry) api.Graph {
	var g api.Graph
	edges := map[int]api.Edge{}
	for _, x := range l {
		if x.Key == headerKey {
			g.Depots, _, _ = Header(x.Value)
			continue
		}
		v, at, _ := Parse(x.Value)
		g.Vertices = append(g.Vertices, v)
		for _, e := range at {
			edges[e.ID] = e
		}
	}
	for _, id := range slices.Sorted(maps.Keys(edges)) {
		g.Edges = append(g.Edges, edges[id])
	}
	return g
}

// graph returns a graph with the vertex of p, the edges of p, and vertices at their other ends.
func (p sheet) graph() api.Graph {
	g := api.Graph{Vertices: []api.Vertex{p.Vertex}, Edges: p.edges}
	for _, id := range Neighbours(p.ID, p.edges) {
		g.Vertices = append(g.Vertices, api.Vertex{ID: id})
	}
	slices.SortFunc(g.Vertices, func(a, b api.Vertex) int { return cmp.Compare(a.ID, b.ID) })
	return g
}

// graph returns a graph with the depots of h, all vertices, and loops with the numbers that the sum of h tells, as far as edges have such numbers.
func (h heading) graph() api.Graph {
	g := api.Graph{Depots: h.depots}
	for id := range api.MaxVertices {
		g.Vertices = append(g.Vertices, api.Vertex{ID: id})
	}
	for id := range api.MaxEdges {
		if h.sum>>id&1 == 1 {
			g.Edges = append(g.Edges, api.Edge{ID: id})
		}
	}
	return g
}

// read returns what one reads in s from its beginning on, and whether it has not given up.
func read[T any](s string, one func(*reader) T) (value T, ok bool) {
	defer func() {
		_ = recover() // value and ok are still zero
	}()
	return one(&reader{text: text(s)}), true
}

// number reads a number.
func (r *reader) number() int {
	n, next := r.numberAt(r.at)
	r.at = next
	return n
}

// list reads how many elements there are, and each of them by one. It gives up if there are more than most, before it takes memory for them. (A negative number is not found again by whoever writes the list.)
func list[T any](r *reader, most int, one func(*reader) T) []T {
	n := r.number()
	if n > most {
		panic(api.ErrPage)
	}
	var l []T
	for range n {
		l = append(l, one(r))
	}
	return l
}

// sheet reads a page.
func (r *reader) sheet() sheet {
	return sheet{api.Vertex{ID: r.number(), Side: r.number()}, list(r, api.MaxEdges, (*reader).edge)}
}

// edge reads an edge. (A number that is neither 0 nor 1 is not found again by whoever writes the edge.)
func (r *reader) edge() api.Edge {
	return api.Edge{ID: r.number(), From: r.number(), To: r.number(), Directed: r.number() == 1, Weight: r.number(), Cap: r.number()}
}

// heading reads a header.
func (r *reader) heading() heading {
	return heading{list(r, api.MaxDepots, (*reader).number), r.number()}
}
