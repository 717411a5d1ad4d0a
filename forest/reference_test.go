package forest_test

import (
	"fmt"
	"math"
	"math/rand"
	"slices"
	"testing"

	"clearway/api"
)

// model says of a graph how many edges lead at least from each number of a vertex to each other one: far, if none do.
type model [24][24]int

const far = 1000

// modelOf returns the model of a valid graph: shorter ways are put together until there are none.
func modelOf(g api.Graph) model {
	var m model
	for a := range m {
		for b := range m {
			m[a][b] = far
		}
	}
	for _, v := range g.Vertices {
		m[v.ID][v.ID] = 0
	}
	for _, e := range g.Edges {
		if e.From != e.To {
			m[e.From][e.To], m[e.To][e.From] = 1, 1
		}
	}
	for c := range m {
		for a := range m {
			for b := range m {
				m[a][b] = min(m[a][b], m[a][c]+m[c][b])
			}
		}
	}
	return m
}

// side returns the component of a, ascending.
func (m model) side(a int) []int {
	var l []int
	for b := range m {
		if m[a][b] < far {
			l = append(l, b)
		}
	}
	return l
}

// label returns the label of the vertex id of g, number by number as the chapter says.
func (m model) label(g api.Graph, id int) []int {
	root, edge := m.side(id)[0], -1
	for _, e := range slices.Backward(g.Edges) {
		for _, x := range [][2]int{{e.From, e.To}, {e.To, e.From}} {
			if x[0] == id && m[root][x[1]] == m[root][id]-1 {
				edge = e.ID
			}
		}
	}
	return []int{root, m[root][id], edge}
}

// labels returns the labels of g.
func (m model) labels(g api.Graph) []api.Named {
	var l []api.Named
	for _, v := range g.Vertices {
		l = append(l, api.Named{ID: v.ID, Label: m.label(g, v.ID)})
	}
	return l
}

// upwards returns the vertices on the way from id to its root, both included, and the edges between them.
func (m model) upwards(g api.Graph, id int) ([]int, []int) {
	vertices, edges := []int{id}, []int(nil)
	for {
		edge := m.label(g, id)[2]
		if edge == -1 {
			return vertices, edges
		}
		e, _ := edgeOf(g, edge)
		id = e.From + e.To - id
		vertices, edges = append(vertices, id), append(edges, edge)
	}
}

// path returns the tree path from a to b: up to the first vertex that is on the way of b, too, and from there back on that way.
func (m model) path(g api.Graph, a, b int) []int {
	ofA, up := m.upwards(g, a)
	ofB, down := m.upwards(g, b)
	k := slices.IndexFunc(ofA, func(id int) bool { return slices.Contains(ofB, id) })
	path := slices.Clone(up[:k])
	for _, edge := range slices.Backward(down[:slices.Index(ofB, ofA[k])]) {
		path = append(path, edge)
	}
	return path
}

// edgeOf returns the edge of g with this number, if there is one.
func edgeOf(g api.Graph, id int) (api.Edge, bool) {
	for _, e := range g.Edges {
		if e.ID == id {
			return e, true
		}
	}
	return api.Edge{}, false
}

// isWalk reports whether path is a walk from a to b in the valid graph g, and both are vertices.
func isWalk(g api.Graph, a, b int, path []int) bool {
	if !hasVertex(g, a) || !hasVertex(g, b) || len(path) > 40 {
		return false
	}
	for _, id := range path {
		e, ok := edgeOf(g, id)
		switch {
		case !ok:
			return false
		case e.From == a:
			a = e.To
		case e.To == a:
			a = e.From
		default:
			return false
		}
	}
	return a == b
}

// isSide reports whether side separates a and b, vertices of the valid graph g.
func isSide(g api.Graph, a, b int, side []int) bool {
	in := map[int]bool{}
	for i, id := range side {
		if i > 0 && side[i-1] >= id || !hasVertex(g, id) {
			return false
		}
		in[id] = true
	}
	for _, e := range g.Edges {
		if in[e.From] != in[e.To] {
			return false
		}
	}
	return hasVertex(g, a) && hasVertex(g, b) && in[a] && !in[b]
}

// hasVertex reports whether g has the vertex id.
func hasVertex(g api.Graph, id int) bool {
	return slices.ContainsFunc(g.Vertices, func(v api.Vertex) bool { return v.ID == id })
}

// labelOf returns the first label of id in l, if there is one, and it has three numbers.
func labelOf(l []api.Named, id int) ([]int, bool) {
	i := slices.IndexFunc(l, func(x api.Named) bool { return x.ID == id })
	if i < 0 || len(l[i].Label) != 3 {
		return nil, false
	}
	return l[i].Label, true
}

// edgesFit reports whether l can be the edges in a view of the vertex n.
func edgesFit(n int, l []api.Edge) bool {
	for i, e := range l {
		if i > 0 && e.ID <= l[i-1].ID || e.ID < 0 || e.ID > 39 || e.From < 0 || e.From > 23 || e.To < 0 || e.To > 23 {
			return false
		}
		if e.Weight < -1000 || e.Weight > 1000 || e.From != n && e.To != n {
			return false
		}
	}
	return true
}

// isGood reports whether v is good: the chapter's conditions, one by one.
func isGood(v api.View) bool {
	n := v.Vertex.ID
	own, ok := labelOf(v.Labels, n)
	if !ok || n < 0 || n > 23 || !edgesFit(n, v.Edges) {
		return false
	}
	root, depth, edge := own[0], own[1], own[2]
	if root < 0 || depth < 0 || root > n || (depth == 0) != (root == n) || depth == 0 && edge != -1 {
		return false
	}
	first := -1
	for _, e := range v.Edges {
		l, ok := labelOf(v.Labels, e.From+e.To-n)
		if !ok || l[0] != root || l[1] < depth && l[1] != depth-1 {
			return false
		}
		if l[1] == depth-1 && first < 0 {
			first = e.ID
		}
	}
	return depth == 0 || first >= 0 && edge == first
}

// countOf returns what Count should return.
func countOf(v api.View) int {
	if l, ok := labelOf(v.Labels, v.Vertex.ID); ok && l[1] == 0 {
		return 1
	}
	return 0
}

// viewOf returns the view of the vertex id of g with the labels l.
func viewOf(g api.Graph, l []api.Named, id int) api.View {
	v := api.View{Depots: g.Depots}
	near := map[int]bool{id: true}
	for _, x := range g.Vertices {
		if x.ID == id {
			v.Vertex = x
		}
	}
	for _, e := range g.Edges {
		if e.From == id || e.To == id {
			v.Edges = append(v.Edges, e)
			near[e.From], near[e.To] = true, true
		}
	}
	for _, x := range l {
		if near[x.ID] {
			v.Labels = append(v.Labels, x)
		}
	}
	return v
}

// text returns x as a text, in which nil and empty lists are equal.
func text(x any) string { return fmt.Sprintf("%+v", x) }

// graphOf returns the graph with the vertices ids and the edges l.
func graphOf(ids []int, l []api.Edge) api.Graph {
	g := api.Graph{Edges: l}
	for _, id := range ids {
		g.Vertices = append(g.Vertices, api.Vertex{ID: id})
	}
	return g
}

// example returns the graph of the chapter's examples.
func example() api.Graph {
	return graphOf([]int{0, 1, 2, 3, 5}, []api.Edge{{ID: 0, From: 2, To: 1}, {ID: 4, From: 1, To: 3}, {ID: 6, From: 3, To: 2}, {ID: 7, From: 5, To: 5}})
}

// line returns a line of all 24 vertices, whose edges and their directions go to and fro.
func line() api.Graph {
	var g api.Graph
	for id := range 24 {
		g.Vertices = append(g.Vertices, api.Vertex{ID: id, Side: id % 4})
		if id > 0 {
			e := api.Edge{ID: 39 - id, From: id, To: id - 1, Directed: true}
			if id%2 == 0 {
				e.From, e.To = e.To, e.From
			}
			g.Edges = append(g.Edges, e)
		}
	}
	slices.Reverse(g.Edges)
	return g
}

// ladder returns a graph with all vertices and 40 edges: three rings, with a second edge beside most of their edges, and three vertices apart, of which one has a loop.
func ladder() api.Graph {
	g := api.Graph{Depots: []int{0, 11, 23}}
	for id := range 24 {
		g.Vertices = append(g.Vertices, api.Vertex{ID: id, Side: id % 4})
	}
	for id := range 39 {
		a := id % 21
		g.Edges = append(g.Edges, api.Edge{ID: id, From: 23 - a, To: 23 - (a+3)%21, Directed: id%2 == 0, Weight: 1000 - 2000*(id%2), Cap: 25 * id})
	}
	g.Edges = append(g.Edges, api.Edge{ID: 39, From: 1, To: 1})
	return g
}

// samples returns some valid graphs.
func samples() []api.Graph {
	r := rand.New(rand.NewSource(1))
	l := []api.Graph{{}, graphOf([]int{23}, nil), example(), line(), ladder()}
	for range 300 {
		l = append(l, randomGraph(r))
	}
	return l
}

// small returns graphs with up to three vertices, and up to two edges between any of them.
func small() []api.Graph {
	var l []api.Graph
	for _, ids := range [][]int{{}, {0}, {23}, {0, 1}, {3, 23}, {0, 1, 2}, {2, 9, 23}} {
		l = append(l, graphOf(ids, nil))
		var pairs [][2]int
		for i, a := range ids {
			for _, b := range ids[i:] {
				pairs = append(pairs, [2]int{a, b})
			}
		}
		for _, x := range pairs {
			l = append(l, graphOf(ids, []api.Edge{{ID: 1, From: x[0], To: x[1]}}))
			for _, y := range pairs {
				l = append(l, graphOf(ids, []api.Edge{{ID: 0, From: x[1], To: x[0]}, {ID: 2, From: y[0], To: y[1], Directed: true}}))
			}
		}
	}
	return l
}

// broken returns graphs that are not valid; all of them have vertices and edges.
func broken() []api.Graph {
	var l []api.Graph
	for _, f := range []func(g *api.Graph){
		func(g *api.Graph) { g.Vertices[4].ID = 24 },
		func(g *api.Graph) { g.Vertices[0].ID = -1 },
		func(g *api.Graph) { g.Vertices[1].ID = 0 },
		func(g *api.Graph) { g.Vertices[0].Side = 4 },
		func(g *api.Graph) { slices.Reverse(g.Vertices) },
		func(g *api.Graph) { g.Vertices = g.Vertices[:4] },
		func(g *api.Graph) { g.Edges[3].ID = 40 },
		func(g *api.Graph) { g.Edges[0].ID = math.MinInt },
		func(g *api.Graph) { g.Edges[1].ID = 0 },
		func(g *api.Graph) { slices.Reverse(g.Edges) },
		func(g *api.Graph) { g.Edges[0].From = 4 },
		func(g *api.Graph) { g.Edges[0].To = 24 },
		func(g *api.Graph) { g.Edges[1].Weight = 1001 },
		func(g *api.Graph) { g.Edges[1].Cap = -1 },
		func(g *api.Graph) { g.Depots = []int{4} },
		func(g *api.Graph) { g.Depots = []int{2, 0} },
		func(g *api.Graph) { g.Depots = []int{0, 1, 2, 3} },
	} {
		g := example()
		f(&g)
		l = append(l, g)
	}
	return l
}

// randomGraph returns a valid graph; most are small.
func randomGraph(r *rand.Rand) api.Graph {
	var g api.Graph
	ids := r.Perm(24)[:1+r.Intn([]int{4, 9, 24}[r.Intn(3)])]
	slices.Sort(ids)
	for _, id := range ids {
		g.Vertices = append(g.Vertices, api.Vertex{ID: id, Side: r.Intn(4)})
		if len(g.Depots) < 3 && r.Intn(4) == 0 {
			g.Depots = append(g.Depots, id)
		}
	}
	edges := r.Perm(40)[:r.Intn(1+[]int{4, 14, 40}[r.Intn(3)])]
	slices.Sort(edges)
	for _, id := range edges {
		g.Edges = append(g.Edges, randomEdge(r, id, ids))
	}
	return g
}

// randomEdge returns an edge with the number id between two of the vertices ids.
func randomEdge(r *rand.Rand, id int, ids []int) api.Edge {
	return api.Edge{ID: id, From: ids[r.Intn(len(ids))], To: ids[r.Intn(len(ids))], Directed: r.Intn(2) == 0, Weight: r.Intn(2001) - 1000, Cap: r.Intn(1001)}
}

// must fails the test if e is an error.
func must(t *testing.T, e api.Errno) {
	t.Helper()
	if e != api.OK {
		t.Fatal("error", e)
	}
}
