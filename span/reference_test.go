package span_test

import (
	"fmt"
	"math"
	"math/rand"
	"slices"
	"sync"
	"testing"

	"clearway/api"
)

// lesser reports whether a is less than b, as the chapter says.
func lesser(a, b api.Edge) bool {
	if a.Weight == b.Weight {
		return a.ID < b.ID
	}
	return a.Weight < b.Weight
}

// table says how many edges lead at least from each number of a vertex to each other one: far, if none do.
type table [24][24]int

const far = 1000

// tableOf returns the table of the edges l, whatever their directions are: shorter ways are put together until there are none.
func tableOf(l []api.Edge) table {
	var m table
	for a := range m {
		for b := range m {
			m[a][b] = far
		}
		m[a][a] = 0
	}
	for _, e := range l {
		if e.From != e.To {
			m[e.From][e.To], m[e.To][e.From] = 1, 1
		}
	}
	for c := range m {
		for a := range m {
			for b := range m {
				m[a][b] = min(m[a][b], m[a][c]+m[c][b])
			}
		}
	}
	return m
}

// those returns the edges of l for which f is true.
func those(l []api.Edge, f func(e api.Edge) bool) []api.Edge {
	var some []api.Edge
	for _, e := range l {
		if f(e) {
			some = append(some, e)
		}
	}
	return some
}

// idsOf returns the numbers of the edges l.
func idsOf(l []api.Edge) []int {
	var ids []int
	for _, e := range l {
		ids = append(ids, e.ID)
	}
	return ids
}

// forestOf returns the edges of the forest of g, in ascending order: those whose ends lesser edges do not connect.
func forestOf(g api.Graph) []api.Edge {
	return those(g.Edges, func(e api.Edge) bool {
		return tableOf(those(g.Edges, func(x api.Edge) bool { return lesser(x, e) }))[e.From][e.To] == far
	})
}

// bottlenecks says for each pair of vertices that are connected what Heaviest should return.
type bottlenecks map[[2]int]int

// bottlenecksOf returns those of g: for different vertices, the least edge such that it and the lesser ones connect them.
func bottlenecksOf(g api.Graph) bottlenecks {
	m := bottlenecks{}
	for _, v := range g.Vertices {
		m[[2]int{v.ID, v.ID}] = -1
	}
	l := slices.Clone(g.Edges)
	slices.SortFunc(l, func(a, b api.Edge) int {
		if lesser(a, b) {
			return -1
		}
		return 1
	})
	for i, e := range l {
		for a, row := range tableOf(l[:i+1]) {
			for b, n := range row {
				if _, known := m[[2]int{a, b}]; !known && a != b && n < far {
					m[[2]int{a, b}] = e.ID
				}
			}
		}
	}
	return m
}

// growth is how a forest grows: the edges that are chosen in each round, without repetition, and the labels.
type growth struct {
	rounds [][]api.Edge
	labels map[int][]int
}

// growthOf returns how the forest of the valid graph g grows, as the chapter defines it, where less says which edges are less.
func growthOf(g api.Graph, less func(a, b api.Edge) bool) growth {
	r := growth{labels: map[int][]int{}}
	done := map[int]bool{}
	for len(done) < len(g.Vertices) {
		var tree, now []api.Edge
		for _, l := range r.rounds {
			tree = append(tree, l...)
		}
		m := tableOf(tree)
		for _, v := range g.Vertices {
			if done[v.ID] {
				continue
			}
			e, found := leastOut(g, less, func(id int) bool { return m[v.ID][id] < far })
			if !found {
				done[v.ID] = true
			} else if !slices.Contains(now, e) {
				now = append(now, e)
			}
			r.labels[v.ID] = append(r.labels[v.ID], blockOf(g, tree, m, v.ID, e, found)...)
		}
		r.rounds = append(r.rounds, now)
	}
	return r
}

// leastOut returns the least edge of g that has exactly one end inside, and whether there is one.
func leastOut(g api.Graph, less func(a, b api.Edge) bool, inside func(id int) bool) (api.Edge, bool) {
	var least api.Edge
	found := false
	for _, e := range g.Edges {
		if inside(e.From) != inside(e.To) && (!found || less(e, least)) {
			least, found = e, true
		}
	}
	return least, found
}

// blockOf returns the block of the vertex id, whose fragment, by the table m of the tree, has chosen the edge e, if found is true.
func blockOf(g api.Graph, tree []api.Edge, m table, id int, e api.Edge, found bool) []int {
	block := []int{0, 0, -1, -1, 0}
	if found {
		block[0], block[3], block[4] = e.From, e.ID, e.Weight
		if m[id][e.From] == far {
			block[0] = e.To
		}
	} else {
		for _, v := range slices.Backward(g.Vertices) {
			if m[id][v.ID] < far {
				block[0] = v.ID
			}
		}
	}
	block[1] = m[block[0]][id]
	for _, x := range tree {
		if x.From == id && m[block[0]][x.To] == block[1]-1 || x.To == id && m[block[0]][x.From] == block[1]-1 {
			block[2] = x.ID
		}
	}
	return block
}

// labelsIn returns the labels of the vertices of g, in order.
func labelsIn(g api.Graph, labels map[int][]int) []api.Named {
	var l []api.Named
	for _, v := range g.Vertices {
		l = append(l, api.Named{ID: v.ID, Label: labels[v.ID]})
	}
	return l
}

// modelOf returns the labels of the valid graph g.
func modelOf(g api.Graph) []api.Named { return labelsIn(g, growthOf(g, lesser).labels) }

// seen is a view whose first condition is true: the vertex, the number of rounds, its edges that are no loops by their other ends, and the labels of these and of itself.
type seen struct {
	n, rounds int
	edges     []api.Edge
	ends      []int
	labels    map[int][]int
}

// seenIn returns what is seen in v, and whether the first condition of a good view is true.
func seenIn(v api.View) (seen, bool) {
	s := seen{n: v.Vertex.ID, labels: map[int][]int{}}
	for i, e := range v.Edges {
		if e.ID < 0 || e.ID > 39 || e.From < 0 || e.From > 23 || e.To < 0 || e.To > 23 || e.Weight < -1000 || e.Weight > 1000 {
			return s, false
		}
		if i > 0 && v.Edges[i-1].ID >= e.ID || e.From != s.n && e.To != s.n {
			return s, false
		}
		if e.From != e.To {
			s.edges, s.ends = append(s.edges, e), append(s.ends, e.From+e.To-s.n)
		}
	}
	for _, id := range append([]int{s.n}, s.ends...) {
		i := slices.IndexFunc(v.Labels, func(x api.Named) bool { return x.ID == id })
		if i < 0 {
			return s, false
		}
		s.labels[id] = v.Labels[i].Label
		if len(s.labels[id]) != len(s.labels[s.n]) {
			return s, false
		}
		for _, n := range s.labels[id] {
			if n < -1152921504606846976 || n > 1152921504606846976 {
				return s, false
			}
		}
	}
	s.rounds = len(s.labels[s.n]) / 5
	return s, s.n >= 0 && s.n < 24 && slices.Contains([]int{5, 10, 15, 20, 25, 30}, len(s.labels[s.n]))
}

// chooses reports whether the vertex id chooses the edge x in a round from 0 to before - 1.
func (s seen) chooses(id, x, before int) bool {
	for j := range before {
		if s.labels[id][5*j+3] == x && s.labels[id][5*j] == id {
			return true
		}
	}
	return false
}

// isGood reports whether v is good: the chapter's conditions, one by one.
func isGood(v api.View) bool {
	s, ok := seenIn(v)
	if !ok {
		return false
	}
	for i := range s.rounds {
		if !s.depthFits(i) || !s.treeFits(i) || i < s.rounds-1 && !s.choiceFits(i) {
			return false
		}
	}
	last := s.labels[s.n][5*s.rounds-5:]
	for _, m := range s.ends {
		if s.labels[m][5*s.rounds-5] != last[0] {
			return false
		}
	}
	return last[3] == -1 && last[4] == 0 && last[0] <= s.n
}

// depthFits is the third condition, for the block i.
func (s seen) depthFits(i int) bool {
	b := s.labels[s.n][5*i:]
	if b[0] < 0 || b[1] < 0 || i == 0 && b[1] != 0 || b[1] == 0 && b[0] != s.n || b[1] != 0 && b[0] == s.n {
		return false
	}
	if b[1] == 0 {
		return b[2] == -1
	}
	for k, e := range s.edges {
		m := s.ends[k]
		if e.ID == b[2] && (s.chooses(s.n, e.ID, i) || s.chooses(m, e.ID, i)) && s.labels[m][5*i+1]+1 == b[1] {
			return true
		}
	}
	return false
}

// treeFits is the fourth condition, for the block i.
func (s seen) treeFits(i int) bool {
	b := s.labels[s.n][5*i:]
	for k, e := range s.edges {
		m := s.ends[k]
		if !s.chooses(s.n, e.ID, i) && !s.chooses(m, e.ID, i) {
			continue
		}
		c := s.labels[m][5*i:]
		if b[0] != c[0] || b[3] != c[3] || b[4] != c[4] {
			return false
		}
		switch c[1] - b[1] {
		case -1:
			if b[2] != e.ID {
				return false
			}
		case 1:
			if c[2] != e.ID {
				return false
			}
		default:
			return false
		}
	}
	return true
}

// choiceFits is the fifth condition, for the block i, which is not the last one.
func (s seen) choiceFits(i int) bool {
	b := s.labels[s.n][5*i:]
	one := false
	for k, e := range s.edges {
		if s.labels[s.ends[k]][5*i] == b[0] {
			continue
		}
		this := b[3] == e.ID && b[4] == e.Weight
		if !this && !lesser(api.Edge{ID: b[3], Weight: b[4]}, e) {
			return false
		}
		one = one || this
	}
	return b[3] >= 0 && (one || b[0] != s.n)
}

// countOf returns what Count should return.
func countOf(v api.View) int {
	s, ok := seenIn(v)
	if !ok {
		return 0
	}
	sum := 0
	for k, e := range s.edges {
		if !s.chooses(s.n, e.ID, s.rounds) {
			continue
		}
		if !s.chooses(s.ends[k], e.ID, s.rounds) || s.ends[k] > s.n {
			sum += e.Weight
		}
	}
	return sum
}

// viewOf returns the view of the vertex id of g with the labels l.
func viewOf(g api.Graph, l []api.Named, id int) api.View {
	v := api.View{Depots: g.Depots}
	near := map[int]bool{id: true}
	for _, x := range g.Vertices {
		if x.ID == id {
			v.Vertex = x
		}
	}
	for _, e := range g.Edges {
		if e.From == id || e.To == id {
			v.Edges = append(v.Edges, e)
			near[e.From], near[e.To] = true, true
		}
	}
	for _, x := range l {
		if near[x.ID] {
			v.Labels = append(v.Labels, x)
		}
	}
	return v
}

// text returns x as a text, in which nil and empty lists are equal.
func text(x any) string { return fmt.Sprintf("%+v", x) }

// graphOf returns the graph with the vertices ids and the edges l.
func graphOf(ids []int, l ...api.Edge) api.Graph {
	g := api.Graph{Edges: l}
	for _, id := range ids {
		g.Vertices = append(g.Vertices, api.Vertex{ID: id})
	}
	return g
}

// edge returns an undirected edge.
func edge(id, from, to, weight int) api.Edge {
	return api.Edge{ID: id, From: from, To: to, Weight: weight}
}

// example returns the graph of the chapter's example.
func example() api.Graph {
	return graphOf([]int{0, 1, 2, 3}, edge(0, 0, 1, 5), edge(1, 1, 2, 3), edge(2, 2, 3, 3), edge(3, 3, 0, 9))
}

// ruler returns a path of all 24 vertices, whose fragments are joined two by two in each round, as far as they are even: there are 24, 12, 6, 3 and 1 of them. The edge to the vertex i is the lesser, the more often i can be halved the greater.
func ruler() api.Graph {
	g := graphOf([]int{0})
	for id := 1; id < 24; id++ {
		w := -1000
		for n := id; n%2 == 0; n /= 2 {
			w += 500
		}
		g.Vertices = append(g.Vertices, api.Vertex{ID: id, Side: id % 4})
		g.Edges = append(g.Edges, edge(39-id, id, id-1, min(w, 1000)))
	}
	slices.Reverse(g.Edges)
	return g
}

// samples returns some valid graphs.
var samples = sync.OnceValue(func() []api.Graph {
	r := rand.New(rand.NewSource(1))
	l := []api.Graph{{}, graphOf([]int{23}), example(), ruler()}
	for range 400 {
		l = append(l, randomGraph(r))
	}
	return l
})

// small returns graphs with up to three vertices, and up to two edges between any of them, and triangles.
var small = sync.OnceValue(func() []api.Graph {
	var l []api.Graph
	for _, ids := range [][]int{{}, {0}, {23}, {0, 1}, {3, 23}, {0, 1, 2}, {2, 9, 23}} {
		l = append(l, graphOf(ids))
		for i, a := range ids {
			for _, b := range ids[i:] {
				l = append(l, graphOf(ids, edge(1, a, b, 4)), graphOf(ids, edge(0, b, a, -1000)))
				for j, c := range ids {
					for _, d := range ids[j:] {
						l = append(l, graphOf(ids, edge(0, a, b, 1), edge(2, d, c, 1)), graphOf(ids, edge(0, a, b, 1), edge(2, d, c, -1)))
					}
				}
			}
		}
		if len(ids) == 3 {
			for _, w := range [][3]int{{0, 0, 0}, {1, 2, 3}, {2, 3, 1}, {3, 1, 2}, {-1, -1, -2}} {
				l = append(l, graphOf(ids, edge(5, ids[0], ids[1], w[0]), edge(6, ids[1], ids[2], w[1]), edge(7, ids[2], ids[0], w[2])))
			}
		}
	}
	return l
})

// broken returns graphs that are not valid; all of them have vertices and edges.
func broken() []api.Graph {
	var l []api.Graph
	for _, f := range []func(g *api.Graph){
		func(g *api.Graph) { g.Vertices[3].ID = 24 },
		func(g *api.Graph) { g.Vertices[0].ID = -1 },
		func(g *api.Graph) { g.Vertices[1].ID = 0 },
		func(g *api.Graph) { g.Vertices[0].Side = 4 },
		func(g *api.Graph) { slices.Reverse(g.Vertices) },
		func(g *api.Graph) { g.Vertices = g.Vertices[:3] },
		func(g *api.Graph) { g.Edges[3].ID = 40 },
		func(g *api.Graph) { g.Edges[0].ID = math.MinInt },
		func(g *api.Graph) { g.Edges[1].ID = 0 },
		func(g *api.Graph) { slices.Reverse(g.Edges) },
		func(g *api.Graph) { g.Edges[0].From = 4 },
		func(g *api.Graph) { g.Edges[0].To = 24 },
		func(g *api.Graph) { g.Edges[1].Weight = 1001 },
		func(g *api.Graph) { g.Edges[1].Weight = math.MinInt },
		func(g *api.Graph) { g.Edges[1].Cap = -1 },
		func(g *api.Graph) { g.Depots = []int{4} },
		func(g *api.Graph) { g.Depots = []int{2, 0} },
		func(g *api.Graph) { g.Depots = []int{0, 1, 2, 3} },
	} {
		g := example()
		f(&g)
		l = append(l, g)
	}
	return l
}

// randomGraph returns a valid graph with at least one vertex: edges at random, or between vertices that are near to each other; with few different weights, or with many.
func randomGraph(r *rand.Rand) api.Graph {
	var g api.Graph
	ids := r.Perm(24)[:1+r.Intn([]int{4, 9, 24}[r.Intn(3)])]
	edges := r.Perm(40)[:r.Intn(1+[]int{6, 16, 40}[r.Intn(3)])]
	near, weights := r.Intn(2) == 0, []int{0, 1, 3, 1000}[r.Intn(4)]
	for i, id := range edges {
		from, to := r.Intn(len(ids)), r.Intn(len(ids))
		if near {
			from = i % len(ids)
			to = (from + 1 + r.Intn(3)/2) % len(ids)
		}
		g.Edges = append(g.Edges, api.Edge{ID: id, From: ids[from], To: ids[to], Directed: r.Intn(2) == 0, Weight: r.Intn(2*weights+1) - weights, Cap: r.Intn(1001)})
	}
	slices.SortFunc(g.Edges, func(a, b api.Edge) int { return a.ID - b.ID })
	slices.Sort(ids)
	for _, id := range ids {
		g.Vertices = append(g.Vertices, api.Vertex{ID: id, Side: r.Intn(4)})
		if len(g.Depots) < 3 && r.Intn(4) == 0 {
			g.Depots = append(g.Depots, id)
		}
	}
	return g
}

// must fails the test if e is an error.
func must(t *testing.T, e api.Errno) {
	t.Helper()
	if e != api.OK {
		t.Fatal("error", e)
	}
}
