package trade_test

import (
	"fmt"
	"math"
	"math/rand"
	"slices"
	"sync"
	"testing"

	"clearway/api"
)

// sideIn returns the side of the vertex id of g, or -1 if there is none.
func sideIn(g api.Graph, id int) int {
	for _, v := range g.Vertices {
		if v.ID == id {
			return v.Side
		}
	}
	return -1
}

// tradersOf returns the traders of g, in order.
func tradersOf(g api.Graph) []int {
	var l []int
	for _, v := range g.Vertices {
		if v.Side == 3 {
			l = append(l, v.ID)
		}
	}
	return l
}

// wishesOf returns the wishes of the trader v of g, in the order of their numbers.
func wishesOf(g api.Graph, v int) []api.Edge {
	var l []api.Edge
	for _, e := range g.Edges {
		if e.Directed && e.From == v && e.To != v && sideIn(g, v) == 3 && sideIn(g, e.To) == 3 {
			l = append(l, e)
		}
	}
	return l
}

// likes reports whether a trader prefers its wish a to its wish b.
func likes(a, b api.Edge) bool {
	switch {
	case a.Weight > b.Weight:
		return true
	case a.Weight < b.Weight:
		return false
	}
	return a.ID < b.ID
}

// model is what the chapter defines, for a valid graph: the traders that leave in each round, and for each trader its round, its edge, and the one to whom this leads (itself, if it is alone).
type model struct {
	g               api.Graph
	rounds          [][]int
	round, edge, to map[int]int
}

// modelOf returns the model of the valid graph g. The traders on cycles are those that are still pointed at when only those whom somebody points at go on to point, again and again.
func modelOf(g api.Graph) model {
	m := model{g: g, round: map[int]int{}, edge: map[int]int{}, to: map[int]int{}}
	here := tradersOf(g)
	for len(here) > 0 {
		for _, v := range here {
			m.edge[v], m.to[v] = -1, v
			var top api.Edge
			for _, e := range wishesOf(g, v) {
				if slices.Contains(here, e.To) && (m.edge[v] < 0 || likes(e, top)) {
					top, m.edge[v], m.to[v] = e, e.ID, e.To
				}
			}
		}
		leaving := here
		for range 24 {
			leaving = slices.DeleteFunc(slices.Clone(here), func(v int) bool {
				return !slices.ContainsFunc(leaving, func(u int) bool { return m.to[u] == v })
			})
		}
		m.rounds = append(m.rounds, leaving)
		for _, v := range leaving {
			m.round[v] = len(m.rounds)
		}
		here = slices.DeleteFunc(slices.Clone(here), func(v int) bool { return m.round[v] > 0 })
	}
	return m
}

// prefers reports whether the trader v prefers its wish e to what it has.
func (m model) prefers(v int, e api.Edge) bool {
	for _, f := range m.g.Edges {
		if f.ID == m.edge[v] {
			return likes(e, f)
		}
	}
	return true
}

// waits reports whether the trader v is kept waiting.
func (m model) waits(v int) bool {
	return m.round[v] > 1 && slices.ContainsFunc(wishesOf(m.g, v), func(e api.Edge) bool { return m.prefers(v, e) && m.round[e.To] == m.round[v]-1 })
}

// steps returns the last number of the label of the trader v.
func (m model) steps(v int) int {
	if m.round[v] == 1 || m.waits(v) {
		return 0
	}
	return m.steps(m.to[v]) + 1
}

// labels returns the labels of all vertices.
func (m model) labels() []api.Named {
	var l []api.Named
	for _, v := range m.g.Vertices {
		x := []int{0, -1, 0}
		if v.Side == 3 {
			x = []int{m.round[v.ID], m.edge[v.ID], m.steps(v.ID)}
		}
		l = append(l, api.Named{ID: v.ID, Label: x})
	}
	return l
}

// labelOf returns the first label of id in l that has three numbers.
func labelOf(l []api.Named, id int) ([]int, bool) {
	for _, x := range l {
		if x.ID == id && len(x.Label) == 3 {
			return x.Label, true
		}
	}
	return nil, false
}

// seen is what the vertex n of a view sees, if the first condition is true.
type seen struct {
	n          int
	v          api.View
	round      map[int]int
	edge       map[int]int
	steps      map[int]int
	own, prior []api.Edge // its wishes, and those that it prefers to its edge
}

// seenIn returns what the vertex of v sees; false if the first condition is not true.
func seenIn(v api.View) (seen, bool) {
	s := seen{n: v.Vertex.ID, v: v, round: map[int]int{}, edge: map[int]int{}, steps: map[int]int{}}
	ends := []int{s.n}
	for i, e := range v.Edges {
		for k, f := range v.Edges {
			if i != k && e.ID == f.ID {
				return s, false
			}
		}
		if e.ID < 0 || e.ID > 39 || e.From < 0 || e.From > 23 || e.To < 0 || e.To > 23 || e.From != s.n && e.To != s.n || e.Weight < -1000 || e.Weight > 1000 {
			return s, false
		}
		ends = append(ends, e.From, e.To)
	}
	for _, id := range ends {
		l, ok := labelOf(v.Labels, id)
		if !ok || slices.Min(l) < -24000 || slices.Max(l) > 24000 {
			return s, false
		}
		s.round[id], s.edge[id], s.steps[id] = l[0], l[1], l[2]
	}
	if v.Vertex.Side != 3 && (s.round[s.n] != 0 || s.edge[s.n] != -1 || s.steps[s.n] != 0) {
		return s, false
	}
	for _, e := range v.Edges {
		if e.Directed && e.From == s.n && e.To != s.n && s.round[e.To] >= 1 {
			s.own = append(s.own, e)
		}
	}
	for _, e := range s.own {
		better := true
		for _, f := range s.own {
			if f.ID == s.edge[s.n] {
				better = likes(e, f)
			}
		}
		if better {
			s.prior = append(s.prior, e)
		}
	}
	return s, true
}

// isGood reports whether v is good: the chapter's conditions, one by one.
func isGood(v api.View) bool {
	s, ok := seenIn(v)
	return ok && (v.Vertex.Side != 3 || s.second() && s.third() && s.fourth() && s.fifth())
}

func (s seen) second() bool {
	if s.round[s.n] < 1 || s.round[s.n] > 24 {
		return false
	}
	for _, e := range s.own {
		if e.ID == s.edge[s.n] {
			return s.round[e.To] == s.round[s.n]
		}
	}
	return s.edge[s.n] == -1
}

func (s seen) third() bool {
	for _, e := range s.prior {
		if s.round[e.To] >= s.round[s.n] {
			return false
		}
	}
	return true
}

func (s seen) fourth() bool {
	givers := map[int]bool{}
	for _, e := range s.v.Edges {
		if e.Directed && e.To == s.n && e.From != s.n && s.round[e.From] >= 1 && s.edge[e.From] == e.ID {
			givers[e.From] = true
		}
	}
	if s.edge[s.n] == -1 {
		return len(givers) == 0
	}
	return len(givers) == 1
}

func (s seen) fifth() bool {
	none := s.round[s.n] == 1
	for _, e := range s.prior {
		none = none || s.round[e.To]+1 == s.round[s.n]
	}
	if none {
		return s.steps[s.n] == 0
	}
	for _, e := range s.own {
		if e.ID == s.edge[s.n] {
			return s.steps[s.n] == s.steps[e.To]+1 && s.steps[s.n] <= 23
		}
	}
	return false
}

// countOf returns what Count should return.
func countOf(v api.View) int {
	for _, x := range v.Labels {
		if x.ID == v.Vertex.ID {
			if len(x.Label) == 3 && x.Label[1] >= 0 {
				return 1
			}
			return 0
		}
	}
	return 0
}

// viewOf returns the view of the vertex id of g with the labels l.
func viewOf(g api.Graph, l []api.Named, id int) api.View {
	v := api.View{Depots: g.Depots}
	near := map[int]bool{id: true}
	for _, x := range g.Vertices {
		if x.ID == id {
			v.Vertex = x
		}
	}
	for _, e := range g.Edges {
		if e.From == id || e.To == id {
			v.Edges = append(v.Edges, e)
			near[e.From], near[e.To] = true, true
		}
	}
	for _, x := range l {
		if near[x.ID] {
			v.Labels = append(v.Labels, x)
		}
	}
	return v
}

// text returns x as a text, in which nil and empty lists are equal.
func text(x any) string { return fmt.Sprintf("%+v", x) }

// graphOf returns the graph whose vertices from 0 on have these sides, with the edges l.
func graphOf(sides []int, l ...api.Edge) api.Graph {
	g := api.Graph{Edges: l}
	for id, side := range sides {
		g.Vertices = append(g.Vertices, api.Vertex{ID: id, Side: side})
	}
	return g
}

// market returns a graph of so many traders, with the edges l.
func market(n int, l ...api.Edge) api.Graph { return graphOf(slices.Repeat([]int{3}, n), l...) }

// edge returns an undirected edge, and to a directed one.
func edge(id, from, to, weight int) api.Edge {
	return api.Edge{ID: id, From: from, To: to, Weight: weight}
}

func to(id, from, to, weight int) api.Edge {
	return api.Edge{ID: id, From: from, To: to, Directed: true, Weight: weight}
}

// example returns the graph of the chapter's example.
func example() api.Graph {
	return market(4, to(0, 0, 1, 9), to(1, 1, 0, 1), to(2, 1, 2, 5), to(3, 2, 0, 3), to(4, 3, 0, 8), to(5, 3, 3, 0))
}

// ring returns all 24 traders, each of which wishes for the next one, and the last one for the first.
func ring() api.Graph {
	g := market(24)
	for v := range 24 {
		g.Edges = append(g.Edges, to(v, v, (v+1)%24, 7))
	}
	return g
}

// queue returns all 24 traders, each of which wishes for the one before: they leave alone, one by one.
func queue() api.Graph {
	g := market(24)
	for v := 1; v < 24; v++ {
		g.Edges = append(g.Edges, to(v, v, v-1, 7))
	}
	return g
}

// late returns a trader that leaves alone, and a ring of the 23 others, one of which would rather have had something from the first one.
func late() api.Graph {
	g := market(24, to(39, 5, 0, 8))
	for v := 22; v >= 0; v-- {
		g.Edges = append([]api.Edge{to(v, v+1, (v+1)%23+1, 7)}, g.Edges...)
	}
	return g
}

// pairs returns so many pairs of traders that swap, of which each one would rather have had something from the pair before.
func pairs(n int) api.Graph {
	g := market(2 * n)
	for k := range n {
		g.Edges = append(g.Edges, to(3*k, 2*k, 2*k+1, 5), to(3*k+1, 2*k+1, 2*k, 5))
		if k > 0 {
			g.Edges = append(g.Edges, to(3*k+2, 2*k+k%2, 2*k-1-k%2, 6))
		}
	}
	return g
}

// full returns seven traders with nearly all wishes that they can have, of these weights.
func full(weight func(a, b int) int) api.Graph {
	g := market(7)
	for a := range 7 {
		for b := range 7 {
			if a != b && len(g.Edges) < 40 {
				g.Edges = append(g.Edges, to(len(g.Edges), a, b, weight(a, b)))
			}
		}
	}
	return g
}

// samples returns some valid graphs.
var samples = sync.OnceValue(func() []api.Graph {
	r := rand.New(rand.NewSource(1))
	l := []api.Graph{{}, graphOf([]int{0}), market(1), market(24), graphOf(slices.Repeat([]int{2, 3}, 12)), example(), ring(), queue(), late(), pairs(2), pairs(12)}
	l = append(l, full(func(a, b int) int { return 0 }), full(func(a, b int) int { return b }), full(func(a, b int) int { return (a - b + 7) % 7 }), full(func(a, b int) int { return a * b % 5 }))
	for range 2500 {
		l = append(l, randomGraph(r))
	}
	for range 1500 {
		l = append(l, crowd(r))
	}
	return l
})

// small returns graphs of up to three traders with all sets of up to four wishes of few weights.
var small = sync.OnceValue(func() []api.Graph {
	l := []api.Graph{market(0), market(1), market(2), market(1, to(0, 0, 0, 5)), graphOf([]int{3, 1}, to(0, 0, 1, 5)), graphOf([]int{1, 3}, to(0, 0, 1, 5), to(1, 1, 0, 5)), market(2, edge(0, 0, 1, 5)), market(2, edge(0, 0, 1, 5), to(1, 1, 0, 5), to(2, 0, 1, 4))}
	var choices []api.Edge
	for a := range 3 {
		for b := range 3 {
			if a != b {
				choices = append(choices, to(0, a, b, 0), to(0, a, b, 1))
			}
		}
	}
	for _, x := range choices {
		x.ID = 3
		l = append(l, market(3, x))
		for _, y := range choices {
			y.ID = 7
			l = append(l, market(3, x, y))
			for _, z := range choices {
				z.ID = 11
				l = append(l, market(3, x, y, z))
				for _, w := range choices[:6] {
					w.ID = 39
					l = append(l, market(3, x, y, z, w))
				}
			}
		}
	}
	return l
})

// broken returns graphs that are not valid; all of them have vertices and edges.
func broken() []api.Graph {
	var l []api.Graph
	for _, f := range []func(g *api.Graph){
		func(g *api.Graph) { g.Vertices[3].ID = 24 },
		func(g *api.Graph) { g.Vertices[0].ID = -1 },
		func(g *api.Graph) { g.Vertices[1].ID = 0 },
		func(g *api.Graph) { g.Vertices[0].Side = 4 },
		func(g *api.Graph) { g.Vertices[2].Side = -1 },
		func(g *api.Graph) { slices.Reverse(g.Vertices) },
		func(g *api.Graph) { g.Vertices = g.Vertices[:3] },
		func(g *api.Graph) { g.Edges[5].ID = 40 },
		func(g *api.Graph) { g.Edges[0].ID = math.MinInt },
		func(g *api.Graph) { g.Edges[1].ID = 0 },
		func(g *api.Graph) { slices.Reverse(g.Edges) },
		func(g *api.Graph) { g.Edges[0].From = 4 },
		func(g *api.Graph) { g.Edges[0].To = 24 },
		func(g *api.Graph) { g.Edges[1].Weight = 1001 },
		func(g *api.Graph) { g.Edges[1].Weight = -1001 },
		func(g *api.Graph) { g.Edges[1].Cap = -1 },
		func(g *api.Graph) { g.Depots = []int{4} },
		func(g *api.Graph) { g.Depots = []int{2, 0} },
		func(g *api.Graph) { g.Depots = []int{0, 1, 2, 3} },
	} {
		g := example()
		f(&g)
		l = append(l, g)
	}
	return l
}

// randomGraph returns a valid graph with at least one vertex; most of its vertices are traders, and most edges are wishes; weights are few, so that there are equal ones, or many.
func randomGraph(r *rand.Rand) api.Graph {
	var g api.Graph
	ids := r.Perm(24)[:1+r.Intn([]int{4, 8, 24}[r.Intn(3)])]
	slices.Sort(ids)
	plain := []int{3, 10, 1000}[r.Intn(3)]
	for _, id := range ids {
		v := api.Vertex{ID: id, Side: 3}
		if r.Intn(plain) == 0 {
			v.Side = r.Intn(3)
		}
		g.Vertices = append(g.Vertices, v)
		if len(g.Depots) < 3 && r.Intn(5) == 0 {
			g.Depots = append(g.Depots, id)
		}
	}
	least, most := []int{0, -2, -1000, 990}[r.Intn(4)], []int{1, 3, 8, 1000}[r.Intn(4)]
	numbers := r.Perm(40)[:r.Intn(1+[]int{6, 16, 40}[r.Intn(3)])]
	slices.Sort(numbers)
	for _, id := range numbers {
		g.Edges = append(g.Edges, api.Edge{ID: id, From: ids[r.Intn(len(ids))], To: ids[r.Intn(len(ids))], Directed: r.Intn(6) > 0, Weight: min(least+r.Intn(most+1), 1000), Cap: r.Intn(1001)})
	}
	return g
}

// crowd returns a graph of traders with all 40 edges, all of which are wishes, where most would like something from the same ones, so that there are many rounds.
func crowd(r *rand.Rand) api.Graph {
	n := 3 + r.Intn([]int{4, 10, 22}[r.Intn(3)])
	g := market(n)
	fame := r.Perm(n)
	noise := 1 + r.Intn([]int{2, 6, 30}[r.Intn(3)])
	for id := range 40 {
		a, b := r.Intn(n), r.Intn(n-1)
		if b >= a {
			b++
		}
		// Some wish for those who are a little more famous than they are, which takes many rounds.
		if near := slices.Index(fame, fame[a]+1+r.Intn(3)); near >= 0 && r.Intn(3) == 0 {
			b = near
		}
		g.Edges = append(g.Edges, to(id, a, b, fame[b]+r.Intn(noise)))
	}
	return g
}

// must fails the test if e is an error.
func must(t *testing.T, e api.Errno) {
	t.Helper()
	if e != api.OK {
		t.Fatal("error", e)
	}
}
