package graph_test

import (
	"encoding/binary"
	"math/rand"
	"reflect"
	"slices"
	"testing"

	"clearway/api"
	"clearway/graph"
)

// model is a graph in another form than that of the program: its vertices, its edges with their two ends, and its depots.
type model struct {
	side   map[int]int
	ends   map[int][2]int
	rest   map[int]api.Edge // without ID, From and To
	depots []int
}

// modelOf returns the model of the valid graph g.
func modelOf(g api.Graph) model {
	m := model{side: map[int]int{}, ends: map[int][2]int{}, rest: map[int]api.Edge{}, depots: slices.Clone(g.Depots)}
	for _, v := range g.Vertices {
		m.side[v.ID] = v.Side
	}
	for _, e := range g.Edges {
		m.put(e)
	}
	return m
}

// put adds the edge e.
func (m model) put(e api.Edge) {
	m.ends[e.ID] = [2]int{e.From, e.To}
	m.rest[e.ID] = api.Edge{Directed: e.Directed, Weight: e.Weight, Cap: e.Cap}
}

// get returns the edge id, which is there.
func (m model) get(id int) api.Edge {
	e := m.rest[id]
	e.ID, e.From, e.To = id, m.ends[id][0], m.ends[id][1]
	return e
}

// graph returns the graph of which m is the model.
func (m model) graph() api.Graph {
	g := api.Graph{Depots: m.depots}
	for id := range api.MaxVertices {
		if s, ok := m.side[id]; ok {
			g.Vertices = append(g.Vertices, api.Vertex{ID: id, Side: s})
		}
	}
	for id := range api.MaxEdges {
		if _, ok := m.ends[id]; ok {
			g.Edges = append(g.Edges, m.get(id))
		}
	}
	return g
}

// vertex reports whether there is the vertex id, edge whether there is the edge id, and free whether v can be added.
func (m model) vertex(id int) bool { _, ok := m.side[id]; return ok }
func (m model) edge(id int) bool   { _, ok := m.ends[id]; return ok }
func (m model) free(v api.Vertex) bool {
	return !m.vertex(v.ID) && v.ID >= 0 && v.ID <= 23 && v.Side >= 0 && v.Side <= 3
}

// at returns the ends at the vertex id.
func (m model) at(id int) []int {
	var l []int
	for n := range 80 {
		if e, ok := m.ends[n/2]; ok && e[n%2] == id {
			l = append(l, n)
		}
	}
	return l
}

// move moves the ends l to the vertex id.
func (m model) move(l []int, id int) {
	for _, n := range l {
		e := m.ends[n/2]
		e[n%2] = id
		m.ends[n/2] = e
	}
}

// fields has a letter for each field of a change of each kind: its Vertex, Edge, ID, N, enDs, and depotS.
var fields = [11]string{"", "V", "I", "E", "I", "IN", "IN", "IN", "IVD", "IN", "S"}

// plain returns c without the fields that its kind does not have.
func plain(c api.Change) api.Change {
	if c.Kind < 1 || c.Kind > 10 {
		return api.Change{Kind: c.Kind}
	}
	b := api.Change{Kind: c.Kind}
	for _, f := range fields[c.Kind] {
		switch f {
		case 'V':
			b.Vertex = c.Vertex
		case 'E':
			b.Edge = c.Edge
		case 'I':
			b.ID = c.ID
		case 'N':
			b.N = c.N
		case 'D':
			b.Ends = c.Ends
		case 'S':
			b.Depots = c.Depots
		}
	}
	return b
}

// ascending reports whether l is strictly ascending.
func ascending(l []int) bool {
	for i := 1; i < len(l); i++ {
		if l[i] <= l[i-1] {
			return false
		}
	}
	return true
}

// act is the chapter's table: it changes m, and returns what undoes that, and whether the condition is true.
func (m *model) act(c api.Change) (api.Change, bool) {
	var undo api.Change
	ok := false
	switch n := c.N; c.Kind {
	case 1:
		if ok = m.free(c.Vertex); ok {
			m.side[c.Vertex.ID] = c.Vertex.Side
			undo = api.Change{Kind: 2, ID: c.Vertex.ID}
		}
	case 2:
		if ok = m.vertex(c.ID) && len(m.at(c.ID)) == 0 && !slices.Contains(m.depots, c.ID); ok {
			undo = api.Change{Kind: 1, Vertex: api.Vertex{ID: c.ID, Side: m.side[c.ID]}}
			delete(m.side, c.ID)
		}
	case 3:
		e := c.Edge
		if ok = !m.edge(e.ID) && e.ID >= 0 && e.ID <= 39 && m.vertex(e.From) && m.vertex(e.To) && e.Weight >= -1000 && e.Weight <= 1000 && e.Cap >= 0 && e.Cap <= 1000; ok {
			m.put(e)
			undo = api.Change{Kind: 4, ID: e.ID}
		}
	case 4:
		if ok = m.edge(c.ID); ok {
			undo = api.Change{Kind: 3, Edge: m.get(c.ID)}
			delete(m.ends, c.ID)
			delete(m.rest, c.ID)
		}
	case 5, 6:
		if ok = m.edge(c.ID) && n <= 1000 && (n >= 0 || c.Kind == 5 && n >= -1000); ok {
			e := m.get(c.ID)
			if c.Kind == 5 {
				e.Weight, n = n, e.Weight
			} else {
				e.Cap, n = n, e.Cap
			}
			m.put(e)
			undo = api.Change{Kind: c.Kind, ID: c.ID, N: n}
		}
	case 7, 8:
		undo, ok = m.actOnEnds(c)
	case 9:
		if ok = m.vertex(c.ID) && n >= 0 && n <= 3; ok {
			undo = api.Change{Kind: 9, ID: c.ID, N: m.side[c.ID]}
			m.side[c.ID] = n
		}
	case 10:
		missing := func(id int) bool { return !m.vertex(id) }
		if ok = len(c.Depots) <= 3 && ascending(c.Depots) && !slices.ContainsFunc(c.Depots, missing); ok {
			undo = api.Change{Kind: 10, Depots: m.depots}
			m.depots = slices.Clone(c.Depots)
		}
	}
	return undo, ok && equal(c, plain(c))
}

// actOnEnds is the part of the table for CContract and CSplit.
func (m *model) actOnEnds(c api.Change) (api.Change, bool) {
	at := m.at(c.ID)
	if c.Kind == 7 {
		if !m.vertex(c.ID) || !m.vertex(c.N) || c.ID == c.N || slices.Contains(m.depots, c.ID) {
			return api.Change{}, false
		}
		undo := api.Change{Kind: 8, ID: c.N, Vertex: api.Vertex{ID: c.ID, Side: m.side[c.ID]}, Ends: at}
		m.move(at, c.N)
		delete(m.side, c.ID)
		return undo, true
	}
	missing := func(e int) bool { return !slices.Contains(at, e) }
	if !m.vertex(c.ID) || !m.free(c.Vertex) || !ascending(c.Ends) || slices.ContainsFunc(c.Ends, missing) {
		return api.Change{}, false
	}
	m.side[c.Vertex.ID] = c.Vertex.Side
	m.move(c.Ends, c.Vertex.ID)
	return api.Change{Kind: 7, ID: c.Vertex.ID, N: c.ID}, true
}

// equal reports whether a and b are equal, field by field, where nil and empty lists are equal. It does not use package graph.
func equal(a, b any) bool { return reflect.DeepEqual(filled(a), filled(b)) }

// filled returns v without empty lists that are not nil.
func filled(v any) any {
	switch x := v.(type) {
	case api.Graph:
		x.Vertices, x.Edges, x.Depots = some(x.Vertices), some(x.Edges), some(x.Depots)
		return x
	case api.Change:
		x.Ends, x.Depots = some(x.Ends), some(x.Depots)
		return x
	}
	return v
}

// some returns a copy of l, nil if it is empty.
func some[T any](l []T) []T { return append([]T(nil), l...) }

// wantChange fails the test if Apply or Invert of the valid graph g and c do anything but what the model does. It returns the graph afterwards, and whether c acts.
func wantChange(t *testing.T, g api.Graph, c api.Change) (api.Graph, bool) {
	t.Helper()
	m := modelOf(g)
	undo, ok := m.act(c)
	a, e := graph.Apply(g, c)
	l, f := graph.Invert(g, c)
	if !ok {
		if e != api.ErrGraph || !equal(a, api.Graph{}) {
			t.Fatalf("Apply(%v, %v) = %v, %d; want ErrGraph", g, c, a, e)
		}
		if f != api.ErrGraph || len(l) != 0 {
			t.Fatalf("Invert(%v, %v) = %v, %d; want ErrGraph", g, c, l, f)
		}
		return a, false
	}
	if want := m.graph(); e != api.OK || !equal(a, want) {
		t.Fatalf("Apply(%v, %v) = %v, %d; want %v", g, c, a, e, want)
	}
	if f != api.OK || len(l) != 1 || !equal(l[0], undo) {
		t.Fatalf("Invert(%v, %v) = %v, %d; want %v", g, c, l, f, undo)
	}
	return a, true
}

// code returns the encodings of numbers by encoding/binary.
func code(l ...int) string {
	var b []byte
	for _, n := range l {
		b = binary.AppendVarint(b, int64(n))
	}
	return string(b)
}

// bit returns 1 for true.
func bit(b bool) int {
	if b {
		return 1
	}
	return 0
}

// changeNumbers returns the numbers of the encoding of c, and graphNumbers those of g.
func changeNumbers(c api.Change) []int {
	l := []int{c.Kind, c.Vertex.ID, c.Vertex.Side, c.Edge.ID, c.Edge.From, c.Edge.To, bit(c.Edge.Directed), c.Edge.Weight, c.Edge.Cap, c.ID, c.N}
	l = append(append(l, len(c.Ends)), c.Ends...)
	return append(append(l, len(c.Depots)), c.Depots...)
}

func graphNumbers(g api.Graph) []int {
	l := []int{len(g.Vertices)}
	for _, v := range g.Vertices {
		l = append(l, v.ID, v.Side)
	}
	l = append(l, len(g.Edges))
	for _, e := range g.Edges {
		l = append(l, e.ID, e.From, e.To, bit(e.Directed), e.Weight, e.Cap)
	}
	return append(append(l, len(g.Depots)), g.Depots...)
}

// example returns the graph of the chapter's examples, with more fields: the vertices 0, 1 and 2, and the edges 0 (0 to 1) and 1 (1 to 2).
func example() api.Graph {
	return api.Graph{
		Vertices: []api.Vertex{{ID: 0}, {ID: 1, Side: api.SRight}, {ID: 2, Side: api.STrader}},
		Edges:    []api.Edge{{ID: 0, From: 0, To: 1, Weight: 5, Cap: 2}, {ID: 1, From: 1, To: 2, Directed: true, Weight: 7}},
		Depots:   []int{0},
	}
}

// full returns a graph with as many of everything as there may be, with loops and parallel edges, and with numbers at the edges.
func full() api.Graph {
	g := api.Graph{Depots: []int{0, 11, 23}}
	for id := range 24 {
		g.Vertices = append(g.Vertices, api.Vertex{ID: id, Side: id % 4})
	}
	for id := range 40 {
		g.Edges = append(g.Edges, api.Edge{ID: id, From: id * 7 % 24, To: id / 2 * 5 % 24, Directed: id%3 == 0, Weight: 1000 - 2000*(id%2), Cap: id % 5 * 250})
	}
	return g
}

// randomGraph returns a valid graph; most are small.
func randomGraph(r *rand.Rand) api.Graph {
	m := modelOf(api.Graph{})
	ids := r.Perm(24)[:r.Intn(1+[]int{3, 6, 24}[r.Intn(3)])]
	for _, id := range ids {
		m.side[id] = r.Intn(4)
	}
	if len(ids) > 0 {
		for _, id := range r.Perm(40)[:r.Intn(1+[]int{4, 10, 40}[r.Intn(3)])] {
			m.put(api.Edge{ID: id, From: ids[r.Intn(len(ids))], To: ids[r.Intn(len(ids))], Directed: r.Intn(2) == 0, Weight: r.Intn(2001) - 1000, Cap: r.Intn(1001)})
		}
	}
	m.depots = slices.Clone(ids[:r.Intn(1+min(3, len(ids)))])
	slices.Sort(m.depots)
	return m.graph()
}

// pick returns an element of l, or often enough another number.
func pick(r *rand.Rand, l []int, most int) int {
	if len(l) == 0 || r.Intn(6) == 0 {
		return r.Intn(most+4) - 2
	}
	return l[r.Intn(len(l))]
}

// subset returns some elements of l in order, seldom with an error.
func subset(r *rand.Rand, l []int) []int {
	var out []int
	for _, n := range l {
		if r.Intn(2) == 0 {
			out = append(out, n)
		}
	}
	if r.Intn(10) == 0 {
		out = append(out, r.Intn(84)-2)
	}
	if r.Intn(10) == 0 {
		slices.Reverse(out)
	}
	return out
}

// number returns a number around a limit, or any other.
func number(r *rand.Rand) int {
	return []int{0, 1, 2, 3, 4, -1, 1000, -1000, 1001, -1001, r.Intn(2001) - 1000, r.Int() - r.Int()}[r.Intn(12)]
}

// randomChange returns a change that often acts on g.
func randomChange(r *rand.Rand, g api.Graph) api.Change {
	m := modelOf(g)
	var vs, es []int
	for _, v := range g.Vertices {
		vs = append(vs, v.ID)
	}
	for _, e := range g.Edges {
		es = append(es, e.ID)
	}
	c := api.Change{Kind: 1 + r.Intn(10), ID: pick(r, vs, 23), N: number(r)}
	c.Vertex = api.Vertex{ID: r.Intn(24), Side: r.Intn(4)}
	c.Edge = api.Edge{ID: r.Intn(40), From: pick(r, vs, 23), To: pick(r, vs, 23), Directed: r.Intn(2) == 0, Weight: r.Intn(2001) - 1000, Cap: r.Intn(1001)}
	c.Ends = subset(r, m.at(c.ID))
	c.Depots = subset(r, vs)
	c.Depots = c.Depots[:min(len(c.Depots), r.Intn(5))]
	switch {
	case c.Kind == api.CDropEdge || c.Kind == api.CWeight || c.Kind == api.CCap:
		c.ID = pick(r, es, 39)
	case c.Kind == api.CContract:
		c.N = pick(r, vs, 23)
	case c.Kind == api.CSide:
		c.N = r.Intn(5)
	}
	if r.Intn(20) == 0 { // not plain, if the kind has not all fields
		return c
	}
	return plain(c)
}
