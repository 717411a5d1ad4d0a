package strong_test

import (
	"fmt"
	"math"
	"math/rand"
	"slices"
	"sync"
	"testing"

	"clearway/api"
)

// arc is a way from one vertex to another one, over the edge with this number.
type arc struct{ from, to, edge int }

// arcsOf returns the arcs of the edges l.
func arcsOf(l []api.Edge) []arc {
	var all []arc
	for _, e := range l {
		if e.From == e.To {
			continue
		}
		all = append(all, arc{e.From, e.To, e.ID})
		if !e.Directed {
			all = append(all, arc{e.To, e.From, e.ID})
		}
	}
	return all
}

// table says how many arcs lead at least from each number of a vertex to each other one: far, if none do.
type table [24][24]int

const far = 1000

// tableOf returns the table of g, where only some arcs are used: shorter ways are put together until there are none.
func tableOf(g api.Graph, use func(a arc) bool) table {
	var m table
	for a := range m {
		for b := range m {
			m[a][b] = far
		}
	}
	for _, v := range g.Vertices {
		m[v.ID][v.ID] = 0
	}
	for _, a := range arcsOf(g.Edges) {
		if use(a) {
			m[a.from][a.to] = 1
		}
	}
	for c := range m {
		for a := range m {
			for b := range m {
				m[a][b] = min(m[a][b], m[a][c]+m[c][b])
			}
		}
	}
	return m
}

// model is what the chapter defines, for a valid graph: the distances, those inside components, the roots, and the ranks.
type model struct {
	g          api.Graph
	all, inner table
	root, rank map[int]int
}

// modelOf returns the model of the valid graph g.
func modelOf(g api.Graph) model {
	m := model{g: g, all: tableOf(g, func(arc) bool { return true }), root: map[int]int{}, rank: map[int]int{}}
	for _, v := range slices.Backward(g.Vertices) {
		for _, w := range slices.Backward(g.Vertices) {
			if m.all[v.ID][w.ID] < far && m.all[w.ID][v.ID] < far {
				m.root[v.ID] = w.ID
			}
		}
	}
	m.inner = tableOf(g, func(a arc) bool { return m.root[a.from] == m.root[a.to] })
	for _, v := range g.Vertices {
		m.rankOf(m.root[v.ID])
	}
	return m
}

// rankOf returns the rank of the component with the root r, and remembers it.
func (m model) rankOf(r int) int {
	if n, known := m.rank[r]; known {
		return n
	}
	n := 0
	for _, a := range arcsOf(m.g.Edges) {
		if m.root[a.to] == r && m.root[a.from] != r {
			n = max(n, 1+m.rankOf(m.root[a.from]))
		}
	}
	m.rank[r] = n
	return n
}

// witness returns the witness distance of the vertex id.
func (m model) witness(id int) int {
	r := m.root[id]
	if m.rank[r] == 0 {
		return 0
	}
	least := far
	for _, a := range arcsOf(m.g.Edges) {
		if m.root[a.to] == r && m.root[a.from] != r && m.rank[m.root[a.from]] == m.rank[r]-1 {
			least = min(least, m.inner[a.to][id])
		}
	}
	return least
}

// label returns the label of the vertex id, number by number as the chapter says.
func (m model) label(id int) []int {
	r, out, in := m.root[id], -1, -1
	for _, a := range slices.Backward(arcsOf(m.g.Edges)) {
		if a.to == id && m.root[a.from] == r && m.all[r][a.from] == m.all[r][id]-1 {
			out = a.edge
		}
		if a.from == id && m.root[a.to] == r && m.all[a.to][r] == m.all[id][r]-1 {
			in = a.edge
		}
	}
	return []int{r, m.all[r][id], out, m.all[id][r], in, m.rank[r], m.witness(id)}
}

// labels returns the labels of all vertices.
func (m model) labels() []api.Named {
	var l []api.Named
	for _, v := range m.g.Vertices {
		l = append(l, api.Named{ID: v.ID, Label: m.label(v.ID)})
	}
	return l
}

// components returns the components, by ranks and by roots.
func (m model) components() [][]int {
	var l [][]int
	for rank := range 24 {
		for r := range 24 {
			var c []int
			for _, v := range m.g.Vertices {
				if m.root[v.ID] == r && m.rank[r] == rank {
					c = append(c, v.ID)
				}
			}
			if len(c) > 0 {
				l = append(l, c)
			}
		}
	}
	return l
}

// hasVertex reports whether g has the vertex id.
func hasVertex(g api.Graph, id int) bool {
	return slices.ContainsFunc(g.Vertices, func(v api.Vertex) bool { return v.ID == id })
}

// labelOf returns the first label of id in l, if there is one, and it is possible.
func labelOf(l []api.Named, id int) ([]int, bool) {
	i := slices.IndexFunc(l, func(x api.Named) bool { return x.ID == id })
	if i < 0 || len(l[i].Label) != 7 {
		return nil, false
	}
	for k, most := range []int{23, 23, 39, 23, 39, 23, 23} {
		if n := l[i].Label[k]; n > most || n < -1 || n == -1 && most != 39 {
			return nil, false
		}
	}
	return l[i].Label, true
}

// isGood reports whether v is good: the chapter's conditions, one by one.
func isGood(v api.View) bool {
	n := v.Vertex.ID
	near := map[int][]int{n: nil}
	for _, e := range v.Edges {
		if e.ID < 0 || e.ID > 39 || e.From < 0 || e.From > 23 || e.To < 0 || e.To > 23 {
			return false
		}
		if e.From == n {
			near[e.To] = nil
		}
		if e.To == n {
			near[e.From] = nil
		}
	}
	for _, id := range []int{n, 0, 1, 2, 3, 4, 5, 6, 7, 8, 9, 10, 11, 12, 13, 14, 15, 16, 17, 18, 19, 20, 21, 22, 23} {
		if _, there := near[id]; there {
			l, ok := labelOf(v.Labels, id)
			if !ok {
				return false
			}
			near[id] = l
		}
	}
	arcs := arcsOf(v.Edges)
	return rootFits(n, near, arcs) && rankFits(n, near, arcs) && witnessFits(n, near, arcs)
}

// rootFits reports whether the root, the depths and the edges in the label of n fit to those of its neighbours.
func rootFits(n int, near map[int][]int, arcs []arc) bool {
	own := near[n]
	if own[0] >= n {
		return own[0] == n && own[1] == 0 && own[3] == 0 && own[2] == -1 && own[4] == -1
	}
	if own[1] < 1 || own[3] < 1 {
		return false
	}
	out, in := far, far
	for _, a := range arcs {
		if a.to == n && near[a.from][0] == own[0] {
			if own[1] > near[a.from][1]+1 {
				return false
			}
			if own[1] == near[a.from][1]+1 {
				out = min(out, a.edge)
			}
		}
		if a.from == n && near[a.to][0] == own[0] {
			if own[3] > near[a.to][3]+1 {
				return false
			}
			if own[3] == near[a.to][3]+1 {
				in = min(in, a.edge)
			}
		}
	}
	return own[2] == out && own[4] == in
}

// rankFits reports whether the rank of n fits to those of its neighbours.
func rankFits(n int, near map[int][]int, arcs []arc) bool {
	own := near[n]
	for _, l := range near {
		if l[0] == own[0] && l[5] != own[5] {
			return false
		}
	}
	for _, a := range arcs {
		if a.to == n && near[a.from][0] != own[0] && near[a.from][5] >= own[5] {
			return false
		}
	}
	return true
}

// witnessFits reports whether the witness distance of n fits to those of its neighbours.
func witnessFits(n int, near map[int][]int, arcs []arc) bool {
	own, least := near[n], far
	if own[5] == 0 {
		return own[6] == 0
	}
	for _, a := range arcs {
		if a.to != n {
			continue
		}
		from := near[a.from]
		if from[0] != own[0] && from[5] == own[5]-1 {
			return own[6] == 0
		}
		if from[0] == own[0] {
			least = min(least, from[6])
		}
	}
	return own[6] == least+1
}

// countOf returns what Count should return.
func countOf(v api.View) int {
	for _, x := range v.Labels {
		if x.ID == v.Vertex.ID {
			if len(x.Label) > 0 && x.Label[0] == x.ID {
				return 1
			}
			break
		}
	}
	return 0
}

// viewOf returns the view of the vertex id of g with the labels l.
func viewOf(g api.Graph, l []api.Named, id int) api.View {
	v := api.View{Depots: g.Depots}
	near := map[int]bool{id: true}
	for _, x := range g.Vertices {
		if x.ID == id {
			v.Vertex = x
		}
	}
	for _, e := range g.Edges {
		if e.From == id || e.To == id {
			v.Edges = append(v.Edges, e)
			near[e.From], near[e.To] = true, true
		}
	}
	for _, x := range l {
		if near[x.ID] {
			v.Labels = append(v.Labels, x)
		}
	}
	return v
}

// text returns x as a text, in which nil and empty lists are equal.
func text(x any) string { return fmt.Sprintf("%+v", x) }

// graphOf returns the graph with the vertices ids and the edges l.
func graphOf(ids []int, l ...api.Edge) api.Graph {
	g := api.Graph{Edges: l}
	for _, id := range ids {
		g.Vertices = append(g.Vertices, api.Vertex{ID: id})
	}
	return g
}

// to returns a directed edge.
func to(id, from, to int) api.Edge { return api.Edge{ID: id, From: from, To: to, Directed: true} }

// both returns an undirected edge.
func both(id, from, to int) api.Edge { return api.Edge{ID: id, From: from, To: to} }

// example returns the graph of the chapter's example.
func example() api.Graph {
	return graphOf([]int{0, 1, 2, 3}, to(0, 0, 1), to(1, 1, 0), to(2, 1, 2), to(3, 2, 3), to(4, 3, 2))
}

// ring returns a directed ring of all 24 vertices, which leads from greater to lesser numbers.
func ring() api.Graph {
	var g api.Graph
	for id := range 24 {
		g.Vertices = append(g.Vertices, api.Vertex{ID: id, Side: id % 4})
		g.Edges = append(g.Edges, to(39-id, id, (id+23)%24))
	}
	slices.Reverse(g.Edges)
	return g
}

// line returns a line of 24 vertices, each of them a component of its own, with 16 further arcs that skip some of them.
func line() api.Graph {
	g := api.Graph{Depots: []int{0, 11, 23}}
	for id := range 24 {
		g.Vertices = append(g.Vertices, api.Vertex{ID: id, Side: id % 4})
	}
	for id := range 16 {
		g.Edges = append(g.Edges, to(id, 23-id, 16-id))
	}
	for id := range 23 {
		g.Edges = append(g.Edges, to(16+id, id+1, id))
	}
	return g
}

// pools returns three components in a row, to which arcs lead at several places: the vertices 0 to 3, 4 to 12 (a ring), and 13 to 20 (a ring); and two vertices apart, which also lead to the last one.
func pools() api.Graph {
	var g api.Graph
	for id := range 24 {
		if id != 22 {
			g.Vertices = append(g.Vertices, api.Vertex{ID: id})
		}
	}
	g.Edges = []api.Edge{both(0, 0, 1), both(1, 1, 2), both(2, 3, 2), to(3, 3, 9), to(4, 0, 12), to(5, 6, 18), to(6, 2, 15), to(7, 23, 13), to(8, 21, 19), to(9, 23, 23)}
	for i := range 9 {
		g.Edges = append(g.Edges, to(10+i, 4+i, 4+(i+1)%9))
	}
	for i := range 8 {
		g.Edges = append(g.Edges, to(20+i, 13+(i+1)%8, 13+i))
	}
	return g
}

// samples returns some valid graphs.
var samples = sync.OnceValue(func() []api.Graph {
	r := rand.New(rand.NewSource(1))
	l := []api.Graph{{}, graphOf([]int{23}), example(), ring(), line(), pools()}
	for range 600 {
		l = append(l, randomGraph(r))
	}
	return l
})

// small returns graphs with up to three vertices, and up to two edges between any of them, and triangles.
var small = sync.OnceValue(func() []api.Graph {
	var l []api.Graph
	for _, ids := range [][]int{{}, {0}, {23}, {0, 1}, {3, 23}, {0, 1, 2}, {2, 9, 23}} {
		l = append(l, graphOf(ids))
		var pairs [][2]int
		for _, a := range ids {
			for _, b := range ids {
				pairs = append(pairs, [2]int{a, b})
			}
		}
		for _, x := range pairs {
			l = append(l, graphOf(ids, to(1, x[0], x[1])))
			for _, y := range pairs {
				l = append(l, graphOf(ids, to(0, x[1], x[0]), to(2, y[0], y[1])), graphOf(ids, both(0, x[1], x[0]), to(2, y[0], y[1])))
			}
		}
		if len(ids) == 3 {
			l = append(l, graphOf(ids, to(5, ids[0], ids[1]), to(6, ids[1], ids[2]), to(7, ids[2], ids[0])))
			l = append(l, graphOf(ids, to(5, ids[1], ids[0]), to(6, ids[2], ids[1]), to(7, ids[0], ids[2])))
			l = append(l, graphOf(ids, to(5, ids[0], ids[1]), to(6, ids[0], ids[2]), to(7, ids[2], ids[1]), to(8, ids[1], ids[2])))
			l = append(l, graphOf(ids, to(5, ids[2], ids[1]), to(6, ids[2], ids[0]), to(7, ids[0], ids[1]), to(8, ids[1], ids[0])))
		}
	}
	return l
})

// broken returns graphs that are not valid; all of them have vertices and edges.
func broken() []api.Graph {
	var l []api.Graph
	for _, f := range []func(g *api.Graph){
		func(g *api.Graph) { g.Vertices[3].ID = 24 },
		func(g *api.Graph) { g.Vertices[0].ID = -1 },
		func(g *api.Graph) { g.Vertices[1].ID = 0 },
		func(g *api.Graph) { g.Vertices[0].Side = 4 },
		func(g *api.Graph) { slices.Reverse(g.Vertices) },
		func(g *api.Graph) { g.Vertices = g.Vertices[:3] },
		func(g *api.Graph) { g.Edges[4].ID = 40 },
		func(g *api.Graph) { g.Edges[0].ID = math.MinInt },
		func(g *api.Graph) { g.Edges[1].ID = 0 },
		func(g *api.Graph) { slices.Reverse(g.Edges) },
		func(g *api.Graph) { g.Edges[0].From = 4 },
		func(g *api.Graph) { g.Edges[0].To = 24 },
		func(g *api.Graph) { g.Edges[1].Weight = 1001 },
		func(g *api.Graph) { g.Edges[1].Cap = -1 },
		func(g *api.Graph) { g.Depots = []int{4} },
		func(g *api.Graph) { g.Depots = []int{2, 0} },
		func(g *api.Graph) { g.Depots = []int{0, 1, 2, 3} },
	} {
		g := example()
		f(&g)
		l = append(l, g)
	}
	return l
}

// randomGraph returns a valid graph with at least one vertex: edges at random, or some rings and arcs between them.
func randomGraph(r *rand.Rand) api.Graph {
	var g api.Graph
	ids := r.Perm(24)[:1+r.Intn([]int{4, 9, 24}[r.Intn(3)])]
	edges := r.Perm(40)[:r.Intn(1+[]int{6, 16, 40}[r.Intn(3)])]
	if r.Intn(2) == 0 {
		g.Edges = ringsOf(r, ids, edges)
	} else {
		directed := r.Intn(4)
		for _, id := range edges {
			g.Edges = append(g.Edges, api.Edge{ID: id, From: ids[r.Intn(len(ids))], To: ids[r.Intn(len(ids))], Directed: r.Intn(4) <= directed})
		}
	}
	for i := range g.Edges {
		g.Edges[i].Weight, g.Edges[i].Cap = r.Intn(2001)-1000, r.Intn(1001)
	}
	slices.SortFunc(g.Edges, func(a, b api.Edge) int { return a.ID - b.ID })
	slices.Sort(ids)
	for _, id := range ids {
		g.Vertices = append(g.Vertices, api.Vertex{ID: id, Side: r.Intn(4)})
		if len(g.Depots) < 3 && r.Intn(4) == 0 {
			g.Depots = append(g.Depots, id)
		}
	}
	return g
}

// ringsOf returns edges with the given numbers between the vertices ids: directed rings of some that are next to each other, and arcs from earlier ones to later ones.
func ringsOf(r *rand.Rand, ids, edges []int) []api.Edge {
	var l []api.Edge
	add := func(from, to int) {
		if len(l) < len(edges) {
			l = append(l, api.Edge{ID: edges[len(l)], From: ids[from], To: ids[to], Directed: true})
		}
	}
	most := 1 + r.Intn(10)
	for k := 0; k < len(ids); {
		n := min(1+r.Intn(most), len(ids)-k)
		for i := range n {
			add(k+i, k+(i+1)%n)
		}
		k += n
	}
	for range 40 {
		a, b := r.Intn(len(ids)), r.Intn(len(ids))
		add(min(a, b), max(a, b))
	}
	return l
}

// must fails the test if e is an error.
func must(t *testing.T, e api.Errno) {
	t.Helper()
	if e != api.OK {
		t.Fatal("error", e)
	}
}
