package pair_test

import (
	"fmt"
	"math"
	"math/rand"
	"slices"
	"sync"
	"testing"

	"clearway/api"
)

// p is the price of a weight of 1 alone.
const p = 1 << 40

// bond is an eligible edge: its ends on both sides, and its price.
type bond struct{ left, right, edge, weight, price int }

// priceOf returns the price of an edge with possible numbers: its parts, as the chapter adds them up.
func priceOf(e api.Edge) int {
	half := 1
	for range 39 - e.ID {
		half += half
	}
	return e.Weight*1024*1024*1024*1024 + half
}

// sideIn returns the side of the vertex id of g.
func sideIn(g api.Graph, id int) int {
	for _, v := range g.Vertices {
		if v.ID == id {
			return v.Side
		}
	}
	return -1
}

// bondsOf returns the eligible edges of g, in order.
func bondsOf(g api.Graph) []bond {
	var l []bond
	for _, e := range g.Edges {
		if e.Weight < 0 {
			continue
		}
		switch from, to := sideIn(g, e.From), sideIn(g, e.To); {
		case from == 1 && to == 2:
			l = append(l, bond{e.From, e.To, e.ID, e.Weight, priceOf(e)})
		case from == 2 && to == 1:
			l = append(l, bond{e.To, e.From, e.ID, e.Weight, priceOf(e)})
		}
	}
	return l
}

// greatest returns the greatest price of a set of bonds of l without common ends. It goes through the vertices of the greater side, and knows the greatest price for each set of those of the lesser side that have been used.
func greatest(l []bond) int {
	var ends [2][]int
	for _, b := range l {
		for side, id := range []int{b.left, b.right} {
			if !slices.Contains(ends[side], id) {
				ends[side] = append(ends[side], id)
			}
		}
	}
	lesser, outer := ends[0], func(b bond) (int, int) { return b.left, b.right }
	through := ends[1]
	if len(ends[0]) > len(ends[1]) {
		lesser, through, outer = ends[1], ends[0], func(b bond) (int, int) { return b.right, b.left }
	}
	known := make([]int, 1<<len(lesser))
	for _, id := range through {
		next := slices.Clone(known)
		for _, b := range l {
			in, out := outer(b)
			if out != id {
				continue
			}
			bit := 1 << slices.Index(lesser, in)
			for used, n := range known {
				if used&bit == 0 {
					next[used|bit] = max(next[used|bit], n+b.price)
				}
			}
		}
		known = next
	}
	return slices.Max(known)
}

// edgesOf returns the edges of which a price consists, in ascending order, and their weight: each edge has a place of its own in the price.
func edgesOf(price int) ([]int, int) {
	var l []int
	for id := range 40 {
		if price>>(39-id)&1 == 1 {
			l = append(l, id)
		}
	}
	return l, price >> 40
}

// model is what the chapter defines, for a valid graph: the eligible edges, the matching, its weight and price, and the edge and the dual of each vertex.
type model struct {
	g             api.Graph
	bonds         []bond
	edges         []int
	weight, price int
	edge, dual    map[int]int
}

// modelOf returns the model of the valid graph g. The greatest dual that a right vertex can have is what the matching loses without it.
func modelOf(g api.Graph) model {
	m := model{g: g, bonds: bondsOf(g), edge: map[int]int{}, dual: map[int]int{}}
	m.price = greatest(m.bonds)
	m.edges, m.weight = edgesOf(m.price)
	for _, v := range g.Vertices {
		m.edge[v.ID] = -1
	}
	for _, b := range m.bonds {
		if slices.Contains(m.edges, b.edge) {
			m.edge[b.left], m.edge[b.right] = b.edge, b.edge
			m.dual[b.right] = m.price - greatest(without(m.bonds, b.right))
			m.dual[b.left] = b.price - m.dual[b.right]
		}
	}
	return m
}

// without returns the bonds of l that are not at the vertex id.
func without(l []bond, id int) []bond {
	return slices.DeleteFunc(slices.Clone(l), func(b bond) bool { return b.left == id || b.right == id })
}

// labels returns the labels of all vertices.
func (m model) labels() []api.Named {
	var l []api.Named
	for _, v := range m.g.Vertices {
		l = append(l, api.Named{ID: v.ID, Label: []int{m.edge[v.ID], m.dual[v.ID], []int{0, 1, 2, 0}[v.Side]}})
	}
	return l
}

// matchings returns all sets of bonds of l without common ends, one by one.
func matchings(l []bond) [][]bond {
	if len(l) == 0 {
		return [][]bond{nil}
	}
	all := matchings(l[1:])
	for _, m := range matchings(without(without(l[1:], l[0].left), l[0].right)) {
		all = append(all, append([]bond{l[0]}, m...))
	}
	return all
}

// priceSum returns the price of several bonds.
func priceSum(l []bond) int {
	sum := 0
	for _, b := range l {
		sum += b.price
	}
	return sum
}

// labelOf returns the first label of id in l, if there is one, and it is possible.
func labelOf(l []api.Named, id int) ([]int, bool) {
	for _, x := range l {
		if x.ID == id {
			n := x.Label
			return n, len(n) == 3 && n[0] >= -1 && n[0] <= 39 && n[1] >= 0 && n[1] <= 4096*p && n[2] >= 0 && n[2] <= 2
		}
	}
	return nil, false
}

// isGood reports whether v is good: the chapter's conditions, one by one.
func isGood(v api.View) bool {
	n := v.Vertex.ID
	near := map[int][]int{n: nil}
	for _, e := range v.Edges {
		if e.From == n || e.To == n {
			near[e.From], near[e.To] = nil, nil
		}
	}
	for id := range near {
		l, ok := labelOf(v.Labels, id)
		if !ok {
			return false
		}
		near[id] = l
	}
	own := near[n]
	if own[2] != map[int]int{1: 1, 2: 2}[v.Vertex.Side] || own[2] == 0 && own[0] != -1 {
		return false
	}
	found := false
	for _, e := range v.Edges {
		if !isSeen(e, n, near) {
			continue
		}
		other := near[e.From+e.To-n]
		sum := own[1] + other[1]
		if sum < priceOf(e) {
			return false
		}
		if own[0] == e.ID && sum == priceOf(e) && other[0] == e.ID {
			found = true
		}
	}
	if own[0] == -1 {
		return own[1] == 0
	}
	return found
}

// isSeen reports whether the vertex n sees the edge e, where near are the labels of n and its neighbours.
func isSeen(e api.Edge, n int, near map[int][]int) bool {
	if e.From == e.To || e.From != n && e.To != n || e.From != n && e.From < 0 || e.To != n && e.To < 0 {
		return false
	}
	if e.ID < 0 || e.ID > 39 || e.Weight < 0 || e.Weight > 1000 {
		return false
	}
	from, to := near[e.From][2], near[e.To][2]
	return from == 1 && to == 2 || from == 2 && to == 1
}

// countOf returns what Count should return.
func countOf(v api.View) int {
	for _, x := range v.Labels {
		if x.ID != v.Vertex.ID {
			continue
		}
		if len(x.Label) == 3 && x.Label[2] == 1 {
			for _, e := range v.Edges {
				if e.ID == x.Label[0] {
					return e.Weight
				}
			}
		}
		break
	}
	return 0
}

// viewOf returns the view of the vertex id of g with the labels l.
func viewOf(g api.Graph, l []api.Named, id int) api.View {
	v := api.View{Depots: g.Depots}
	near := map[int]bool{id: true}
	for _, x := range g.Vertices {
		if x.ID == id {
			v.Vertex = x
		}
	}
	for _, e := range g.Edges {
		if e.From == id || e.To == id {
			v.Edges = append(v.Edges, e)
			near[e.From], near[e.To] = true, true
		}
	}
	for _, x := range l {
		if near[x.ID] {
			v.Labels = append(v.Labels, x)
		}
	}
	return v
}

// text returns x as a text, in which nil and empty lists are equal.
func text(x any) string { return fmt.Sprintf("%+v", x) }

// graphOf returns the graph whose vertices from 0 on have these sides, with the edges l.
func graphOf(sides []int, l ...api.Edge) api.Graph {
	g := api.Graph{Edges: l}
	for id, side := range sides {
		g.Vertices = append(g.Vertices, api.Vertex{ID: id, Side: side})
	}
	return g
}

// edge returns an undirected edge, and to a directed one.
func edge(id, from, to, weight int) api.Edge {
	return api.Edge{ID: id, From: from, To: to, Weight: weight}
}

func to(id, from, to, weight int) api.Edge {
	return api.Edge{ID: id, From: from, To: to, Directed: true, Weight: weight}
}

// example returns the graph of the chapter's example.
func example() api.Graph {
	return graphOf([]int{1, 1, 2, 2}, edge(0, 0, 2, 5), edge(1, 0, 3, 4), edge(2, 1, 2, 4))
}

// chain returns a path of all 24 vertices, left and right by turns from 0 on, with these weights by turns.
func chain(weights ...int) api.Graph {
	g := graphOf(slices.Repeat([]int{1, 2}, 12))
	for id := range 23 {
		g.Edges = append(g.Edges, edge(id, id, id+1, weights[id%len(weights)]))
	}
	return g
}

// square returns a graph of six left and six right vertices, with an edge between any two of them.
func square(weight func(a, b int) int) api.Graph {
	g := graphOf(slices.Repeat([]int{2, 1}, 6))
	for a := range 6 {
		for b := range 6 {
			g.Edges = append(g.Edges, edge(6*a+b, 2*a, 2*b+1, weight(a, b)))
		}
	}
	return g
}

// star returns a vertex of the given side with 23 others, and more than one edge to some of them.
func star(side int) api.Graph {
	g := graphOf(append([]int{side}, slices.Repeat([]int{3 - side}, 23)...))
	for id := range 40 {
		g.Edges = append(g.Edges, to(id, id*7%23+1, 0, id*id%19))
	}
	return g
}

// samples returns some valid graphs.
var samples = sync.OnceValue(func() []api.Graph {
	r := rand.New(rand.NewSource(1))
	l := []api.Graph{{}, graphOf([]int{1}), graphOf([]int{2}), graphOf(slices.Repeat([]int{1}, 24)), graphOf(slices.Repeat([]int{2, 3}, 12)), example()}
	l = append(l, chain(0), chain(1000), chain(3, 5), chain(5, 3), chain(1, 2, 1), chain(2, 1, 2), chain(9, 8, 7, 6, 5), star(1), star(2))
	l = append(l, square(func(a, b int) int { return 1000 }), square(func(a, b int) int { return a * b }), square(func(a, b int) int { return (a - b) * (a - b) }), square(func(a, b int) int { return 2*a + b }))
	for range 2000 {
		l = append(l, randomGraph(r))
	}
	for range 400 {
		l = append(l, crowd(r))
	}
	return l
})

// small returns graphs with up to two vertices on each side, or on none, and up to three edges with small weights.
var small = sync.OnceValue(func() []api.Graph {
	l := []api.Graph{graphOf(nil), graphOf([]int{0}), graphOf([]int{1}), graphOf([]int{2, 3})}
	for _, sides := range [][]int{{1, 2}, {2, 1}, {1, 1, 2}, {2, 1, 2}, {1, 2, 1, 2}, {2, 2, 1, 1}} {
		var choices []api.Edge
		for a, from := range sides {
			for b, to := range sides {
				for w := range 3 {
					if from < to {
						choices = append(choices, edge(0, a, b, w))
					}
				}
			}
		}
		for _, x := range choices {
			x.ID = 3
			l = append(l, graphOf(sides, x))
			for _, y := range choices {
				y.ID = 7
				l = append(l, graphOf(sides, x, y))
				for _, z := range choices[:len(choices)/2] {
					z.ID = 39
					l = append(l, graphOf(sides, x, y, z))
				}
			}
		}
	}
	for _, sides := range [][]int{{0, 0}, {0, 1}, {1, 1}, {1, 3}, {2, 2}, {2, 0}, {3, 2}, {3, 3}} {
		l = append(l, graphOf(sides, edge(0, 0, 1, 5)), graphOf(sides, edge(0, 0, 1, 5), edge(4, 0, 0, 7)))
	}
	for w := -2; w < 1; w++ {
		l = append(l, graphOf([]int{1, 2}, edge(0, 0, 1, w)), graphOf([]int{2, 1, 2}, edge(0, 0, 1, w), to(1, 1, 2, w-1)), graphOf([]int{1, 2}, edge(5, 1, 1, 4), to(6, 1, 0, w)))
	}
	return l
})

// broken returns graphs that are not valid; all of them have vertices and edges.
func broken() []api.Graph {
	var l []api.Graph
	for _, f := range []func(g *api.Graph){
		func(g *api.Graph) { g.Vertices[3].ID = 24 },
		func(g *api.Graph) { g.Vertices[0].ID = -1 },
		func(g *api.Graph) { g.Vertices[1].ID = 0 },
		func(g *api.Graph) { g.Vertices[0].Side = 4 },
		func(g *api.Graph) { g.Vertices[2].Side = -1 },
		func(g *api.Graph) { slices.Reverse(g.Vertices) },
		func(g *api.Graph) { g.Vertices = g.Vertices[:3] },
		func(g *api.Graph) { g.Edges[2].ID = 40 },
		func(g *api.Graph) { g.Edges[0].ID = math.MinInt },
		func(g *api.Graph) { g.Edges[1].ID = 0 },
		func(g *api.Graph) { slices.Reverse(g.Edges) },
		func(g *api.Graph) { g.Edges[0].From = 4 },
		func(g *api.Graph) { g.Edges[0].To = 24 },
		func(g *api.Graph) { g.Edges[1].Weight = 1001 },
		func(g *api.Graph) { g.Edges[1].Weight = -1001 },
		func(g *api.Graph) { g.Edges[1].Cap = -1 },
		func(g *api.Graph) { g.Depots = []int{4} },
		func(g *api.Graph) { g.Depots = []int{2, 0} },
		func(g *api.Graph) { g.Depots = []int{0, 1, 2, 3} },
	} {
		g := example()
		f(&g)
		l = append(l, g)
	}
	return l
}

// randomGraph returns a valid graph with at least one vertex, most of whose edges lead from one side to the other one; weights are few, so that matchings have equal ones, or many.
func randomGraph(r *rand.Rand) api.Graph {
	var g api.Graph
	ids := r.Perm(24)[:1+r.Intn([]int{5, 10, 24}[r.Intn(3)])]
	slices.Sort(ids)
	var ends [2][]int
	plain := []int{8, 30, 1000}[r.Intn(3)]
	for _, id := range ids {
		v := api.Vertex{ID: id, Side: 1 + r.Intn(2)}
		ends[v.Side-1] = append(ends[v.Side-1], id)
		if r.Intn(plain) == 0 {
			v.Side = r.Intn(4)
		}
		g.Vertices = append(g.Vertices, v)
		if len(g.Depots) < 3 && r.Intn(5) == 0 {
			g.Depots = append(g.Depots, id)
		}
	}
	least, most := []int{0, 0, 1, -2, -1000, 990}[r.Intn(6)], []int{1, 3, 8, 30, 1000}[r.Intn(5)]
	numbers := r.Perm(40)[:r.Intn(1+[]int{6, 16, 40}[r.Intn(3)])]
	slices.Sort(numbers)
	for _, id := range numbers {
		e := api.Edge{ID: id, From: ids[r.Intn(len(ids))], To: ids[r.Intn(len(ids))], Directed: r.Intn(2) == 0, Weight: min(least+r.Intn(most+1), 1000), Cap: r.Intn(1001)}
		if len(ends[0]) > 0 && len(ends[1]) > 0 && r.Intn(8) > 0 {
			e.From, e.To = ends[0][r.Intn(len(ends[0]))], ends[1][r.Intn(len(ends[1]))]
			if r.Intn(2) == 0 {
				e.From, e.To = e.To, e.From
			}
		}
		g.Edges = append(g.Edges, e)
	}
	return g
}

// crowd returns a graph of five to twelve vertices on each side and all edges, of which each is eligible, in which few vertices stay free.
func crowd(r *rand.Rand) api.Graph {
	many := 5 + r.Intn(8)
	g := graphOf(slices.Repeat([]int{1, 2}, many))
	r.Shuffle(2*many, func(i, k int) { g.Vertices[i].Side, g.Vertices[k].Side = g.Vertices[k].Side, g.Vertices[i].Side })
	var ends [2][]int
	for _, v := range g.Vertices {
		ends[v.Side-1] = append(ends[v.Side-1], v.ID)
	}
	most := []int{1, 2, 6, 1001}[r.Intn(4)]
	for id := range 40 {
		g.Edges = append(g.Edges, edge(id, ends[0][r.Intn(many)], ends[1][r.Intn(many)], r.Intn(most)))
	}
	return g
}

// must fails the test if e is an error.
func must(t *testing.T, e api.Errno) {
	t.Helper()
	if e != api.OK {
		t.Fatal("error", e)
	}
}
