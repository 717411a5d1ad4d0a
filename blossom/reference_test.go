package blossom_test

import (
	"fmt"
	"maps"
	"math"
	"math/rand"
	"slices"
	"sync"
	"testing"

	"clearway/api"
)

// p is the price of a weight of 1 alone.
const p = 1 << 40

// bond is a usable edge: its ends, its number, its weight and its price.
type bond struct{ a, b, edge, weight, price int }

// other returns the end of b that is not id.
func (b bond) other(id int) int { return b.a + b.b - id }

// at reports whether id is an end of b.
func (b bond) at(id int) bool { return b.a == id || b.b == id }

// priceOf returns the price of an edge with possible numbers: its parts, as the chapter adds them up.
func priceOf(e api.Edge) int {
	half := 1
	for range 39 - e.ID {
		half += half
	}
	return e.Weight*1024*1024*1024*1024 + half
}

// bondsOf returns the usable edges of g, in order.
func bondsOf(g api.Graph) []bond {
	var l []bond
	for _, e := range g.Edges {
		if e.Weight >= 0 && e.From != e.To {
			l = append(l, bond{e.From, e.To, e.ID, e.Weight, priceOf(e)})
		}
	}
	return l
}

// matching is a set of edges, each of them a bit, and its value.
type matching struct{ edges, value int }

// search finds the matchings with the greatest values, for some vertices of which each one is a bit; those that are known are kept.
type search struct {
	bonds []bond
	known map[int]matching
}

// best returns the matching with the greatest value among the vertices of some: one of them stays without an edge, or has one of its edges.
func (s search) best(some int) matching {
	m, ok := s.known[some]
	if ok || some == 0 {
		return m
	}
	v := 0
	for some>>v&1 == 0 {
		v++
	}
	m = s.best(some &^ (1 << v))
	for _, b := range s.bonds {
		if w := b.other(v); b.at(v) && some>>w&1 == 1 {
			rest := s.best(some &^ (1<<v | 1<<w))
			if value := rest.value + b.price; value > m.value {
				m = matching{rest.edges | 1<<b.edge, value}
			}
		}
	}
	s.known[some] = m
	return m
}

// bestOf returns the matching of l with the greatest value.
func bestOf(l []bond) matching {
	ends := 0
	for _, b := range l {
		ends |= 1<<b.a | 1<<b.b
	}
	return search{l, map[int]matching{}}.best(ends)
}

// listOf returns the places of the bits of n, in ascending order.
func listOf(n int) []int {
	var l []int
	for i := range 63 {
		if n>>i&1 == 1 {
			l = append(l, i)
		}
	}
	return l
}

// sizeOf returns the number of bits of n.
func sizeOf(n int) int { return len(listOf(n)) }

// family is what the chapter's steps lead to: Y of all vertices, and the odd sets (of which each vertex is a bit) with their Z. It counts the steps, and how often sets leave.
type family struct {
	y           map[int]int
	z           map[int]int
	steps, left int
}

// slack returns the slack of b.
func (f family) slack(b bond) int {
	sum := f.y[b.a] + f.y[b.b] - 2*b.price
	for s, z := range f.z {
		if (s>>b.a)&(s>>b.b)&1 == 1 {
			sum += z
		}
	}
	return sum
}

// nodes returns the sets of f that are in no other one, and all other vertices alone, in ascending order.
func (f family) nodes() []int {
	var l []int
	used := 0
	for s := range f.z {
		inside := false
		for t := range f.z {
			inside = inside || s != t && s&t == s
		}
		if !inside {
			l = append(l, s)
			used |= s
		}
	}
	for v := range f.y {
		if used>>v&1 == 0 {
			l = append(l, 1<<v)
		}
	}
	slices.Sort(l)
	return l
}

// pairs returns how many pairs of joined nodes can be chosen among some of them, each of which is a bit.
func pairs(joined [][]bool, some int, known map[int]int) int {
	if some == 0 {
		return 0
	}
	if n, ok := known[some]; ok {
		return n
	}
	l := listOf(some)
	rest := some &^ (1 << l[0])
	n := pairs(joined, rest, known)
	for _, i := range l[1:] {
		if joined[l[0]][i] {
			n = max(n, 1+pairs(joined, rest&^(1<<i), known))
		}
	}
	known[some] = n
	return n
}

// roles returns the nodes of f, as lists: the clusters of outer ones, and the inner ones, where l are the usable edges.
func (f family) roles(l []bond) (clusters [][]int, inner []int) {
	nodes := f.nodes()
	joined := make([][]bool, len(nodes))
	for i, s := range nodes {
		joined[i] = make([]bool, len(nodes))
		for k, t := range nodes {
			joined[i][k] = i != k && slices.ContainsFunc(l, func(b bond) bool {
				return (1<<b.a|1<<b.b)&s != 0 && (1<<b.a|1<<b.b)&t != 0 && f.slack(b) == 0
			})
		}
	}
	all, known := 1<<len(nodes)-1, map[int]int{}
	outer := map[int]bool{}
	for i := range nodes {
		outer[i] = pairs(joined, all&^(1<<i), known) == pairs(joined, all, known)
	}
	been := map[int]bool{}
	var cluster []int
	var visit func(i int)
	visit = func(i int) {
		been[i] = true
		cluster = append(cluster, nodes[i])
		for k := range nodes {
			if joined[i][k] && outer[k] && !been[k] {
				visit(k)
			}
		}
	}
	for i := range nodes {
		if outer[i] && !been[i] {
			cluster = nil
			visit(i)
			clusters = append(clusters, cluster)
		}
		if !outer[i] && slices.ContainsFunc(slices.Collect(maps.Keys(outer)), func(k int) bool { return outer[k] && joined[i][k] }) {
			inner = append(inner, nodes[i])
		}
	}
	return clusters, inner
}

// familyOf returns the dual solution of the graph g: the chapter's steps, one by one.
func familyOf(g api.Graph) family {
	l := bondsOf(g)
	f := family{y: map[int]int{}, z: map[int]int{}}
	start := 0
	for _, b := range l {
		start = max(start, b.price)
	}
	for _, v := range g.Vertices {
		f.y[v.ID] = start
	}
	if len(l) == 0 {
		return f
	}
	for {
		clusters, inner := f.roles(l)
		if len(clusters) == 0 {
			return f
		}
		f.steps++
		if f.step(l, clusters, inner) {
			return f
		}
	}
}

// places returns the number of the cluster of each vertex of an outer node, from 1 on, and -1 for those of inner nodes.
func places(clusters [][]int, inner []int) map[int]int {
	where := map[int]int{}
	for i, c := range clusters {
		for _, node := range c {
			for _, v := range listOf(node) {
				where[v] = i + 1
			}
		}
	}
	for _, node := range inner {
		for _, v := range listOf(node) {
			where[v] = -1
		}
	}
	return where
}

// least returns the number d of the chapter's step 2.
func (f *family) least(l []bond, where map[int]int, inner []int) int {
	d := math.MaxInt
	for v, y := range f.y {
		if where[v] > 0 {
			d = min(d, y)
		}
	}
	for _, b := range l {
		one, two := where[b.a], where[b.b]
		if one > 0 && two == 0 || one == 0 && two > 0 {
			d = min(d, f.slack(b))
		}
		if one > 0 && two > 0 && one != two {
			d = min(d, f.slack(b)/2)
			if f.slack(b)%2 != 0 {
				panic("half a number")
			}
		}
	}
	for _, node := range inner {
		if z, ok := f.z[node]; ok {
			d = min(d, z/2)
		}
	}
	if d <= 0 {
		panic("not a positive number")
	}
	return d
}

// step does the chapter's steps 2 to 4 once, and reports whether all is done then.
func (f *family) step(l []bond, clusters [][]int, inner []int) bool {
	where := places(clusters, inner)
	d := f.least(l, where, inner)
	done := false
	for v := range f.y {
		switch {
		case where[v] > 0:
			f.y[v] -= d
			done = done || f.y[v] == 0
		case where[v] < 0:
			f.y[v] += d
		}
	}
	for _, node := range inner {
		if z, ok := f.z[node]; ok {
			f.z[node] = z - 2*d
			if f.z[node] == 0 {
				delete(f.z, node)
				f.left++
			}
		}
	}
	for _, c := range clusters {
		s := 0
		for _, node := range c {
			s |= node
		}
		if sizeOf(s) > 1 {
			f.z[s] += 2 * d
		}
	}
	return done
}

// model is what the chapter defines, for a valid graph: the usable edges, the edges of the best matching, their weight and value, the edge of each vertex, and the dual solution.
type model struct {
	g             api.Graph
	bonds         []bond
	edges         []int
	weight, value int
	edge, mate    map[int]int
	family        family
}

// modelOf returns the model of the valid graph g.
func modelOf(g api.Graph) model {
	m := model{g: g, bonds: bondsOf(g), edge: map[int]int{}, mate: map[int]int{}, family: familyOf(g)}
	best := bestOf(m.bonds)
	m.edges, m.value = listOf(best.edges), best.value
	for _, v := range g.Vertices {
		m.edge[v.ID], m.mate[v.ID] = -1, -1
	}
	for _, b := range m.bonds {
		if slices.Contains(m.edges, b.edge) {
			m.edge[b.a], m.edge[b.b], m.mate[b.a], m.mate[b.b] = b.edge, b.edge, b.b, b.a
			m.weight += b.weight
		}
	}
	return m
}

// dual returns the dual solution, where sets are sorted by their least members and then by their sizes.
func (m model) dual() api.Dual {
	var d api.Dual
	for _, v := range m.g.Vertices {
		d.Duals = append(d.Duals, m.family.y[v.ID])
	}
	for least := range 24 {
		for size := range 25 {
			for s, z := range m.family.z {
				if l := listOf(s); l[0] == least && len(l) == size {
					d.Odds = append(d.Odds, api.Odd{Members: l, Dual: z})
				}
			}
		}
	}
	return d
}

// labels returns the labels of all vertices.
func (m model) labels() []api.Named {
	var l []api.Named
	for _, v := range m.g.Vertices {
		x := []int{m.edge[v.ID], m.family.y[v.ID]}
		for size := range 25 {
			for s, z := range m.family.z {
				if in := listOf(s); len(in) == size && slices.Contains(in, v.ID) {
					x = append(x, in[0], size, m.bases(in)[0], z)
				}
			}
		}
		l = append(l, api.Named{ID: v.ID, Label: x})
	}
	return l
}

// bases returns the vertices in a set whose mates are not in it.
func (m model) bases(in []int) []int {
	var l []int
	for _, v := range in {
		if !slices.Contains(in, m.mate[v]) {
			l = append(l, v)
		}
	}
	return l
}

// matchings returns all sets of bonds of l without common ends, one by one.
func matchings(l []bond) [][]bond {
	if len(l) == 0 {
		return [][]bond{nil}
	}
	all := matchings(l[1:])
	for _, m := range matchings(without(without(l[1:], l[0].a), l[0].b)) {
		all = append(all, append([]bond{l[0]}, m...))
	}
	return all
}

// without returns the bonds of l that are not at the vertex id.
func without(l []bond, id int) []bond {
	return slices.DeleteFunc(slices.Clone(l), func(b bond) bool { return b.at(id) })
}

// valueOf returns the value of several bonds.
func valueOf(l []bond) int {
	sum := 0
	for _, b := range l {
		sum += b.price
	}
	return sum
}

// labelOf returns the first label of id in l, if there is one, and its numbers are possible.
func labelOf(l []api.Named, id int) ([]int, bool) {
	for _, x := range l {
		if x.ID != id {
			continue
		}
		n := x.Label
		if len(n) < 2 || len(n) > 46 || len(n)%4 != 2 || n[1] < 0 || n[1] > 1<<56 {
			return nil, false
		}
		last := math.MinInt
		for i, set := range setsOf(n) {
			if set[3] < 1 || set[3] > 1<<56 || i > 0 && set[1] <= last {
				return nil, false
			}
			last = set[1]
		}
		return n, true
	}
	return nil, false
}

// setsOf returns the sets of a label: least, size, base and dual.
func setsOf(l []int) [][4]int {
	var all [][4]int
	for i := 2; i+4 <= len(l); i += 4 {
		all = append(all, [4]int(l[i:i+4]))
	}
	return all
}

// common returns the pairs of sets that are the same in two labels.
func common(a, b []int) [][2][4]int {
	var all [][2][4]int
	for _, x := range setsOf(a) {
		for _, y := range setsOf(b) {
			if x[0] == y[0] && x[1] == y[1] {
				all = append(all, [2][4]int{x, y})
			}
		}
	}
	return all
}

// hasEdges reports whether the number and the edges of v are possible.
func hasEdges(v api.View) bool {
	n, last := v.Vertex.ID, -1
	if n < 0 || n > 23 {
		return false
	}
	for _, e := range v.Edges {
		if e.ID <= last || e.ID > 39 || e.Weight < -1000 || e.Weight > 1000 {
			return false
		}
		if min(e.From, e.To) < 0 || max(e.From, e.To) > 23 || e.From != n && e.To != n {
			return false
		}
		last = e.ID
	}
	return true
}

// isGood reports whether v is good: the chapter's conditions, one by one.
func isGood(v api.View) bool {
	n := v.Vertex.ID
	if !hasEdges(v) {
		return false
	}
	labels := map[int][]int{n: nil}
	for _, e := range v.Edges {
		labels[e.From], labels[e.To] = nil, nil
	}
	for id := range labels {
		l, ok := labelOf(v.Labels, id)
		if !ok {
			return false
		}
		labels[id] = l
	}
	own := labels[n]
	var mate []int
	found := false
	for _, e := range v.Edges {
		if e.From == e.To || e.Weight < 0 {
			continue
		}
		other := labels[e.From+e.To-n]
		sum := own[1] + other[1]
		for _, x := range common(own, other) {
			if x[0] != x[1] {
				return false
			}
			sum += x[0][3]
		}
		if sum < 2*priceOf(e) {
			return false
		}
		if own[0] == e.ID && sum == 2*priceOf(e) && other[0] == e.ID {
			found, mate = true, other
		}
	}
	if own[0] == -1 && own[1] != 0 || own[0] != -1 && !found {
		return false
	}
	for _, x := range setsOf(own) {
		shared := slices.ContainsFunc(setsOf(mate), func(y [4]int) bool { return x[0] == y[0] && x[1] == y[1] })
		if x[2] != n && !shared {
			return false
		}
	}
	return true
}

// countOf returns what Count should return.
func countOf(v api.View) int {
	for _, x := range v.Labels {
		if x.ID != v.Vertex.ID {
			continue
		}
		for _, e := range v.Edges {
			if len(x.Label) == 0 || e.ID != x.Label[0] {
				continue
			}
			other := -1
			if e.From == x.ID {
				other = e.To
			} else if e.To == x.ID {
				other = e.From
			}
			if other > x.ID {
				return e.Weight
			}
			return 0
		}
		break
	}
	return 0
}

// viewOf returns the view of the vertex id of g with the labels l.
func viewOf(g api.Graph, l []api.Named, id int) api.View {
	v := api.View{Depots: g.Depots}
	near := map[int]bool{id: true}
	for _, x := range g.Vertices {
		if x.ID == id {
			v.Vertex = x
		}
	}
	for _, e := range g.Edges {
		if e.From == id || e.To == id {
			v.Edges = append(v.Edges, e)
			near[e.From], near[e.To] = true, true
		}
	}
	for _, x := range l {
		if near[x.ID] {
			v.Labels = append(v.Labels, x)
		}
	}
	return v
}

// text returns x as a text, in which nil and empty lists are equal.
func text(x any) string { return fmt.Sprintf("%+v", x) }

// graphOf returns the graph with the vertices from 0 to n - 1, and the edges l.
func graphOf(n int, l ...api.Edge) api.Graph {
	g := api.Graph{Edges: l}
	for id := range n {
		g.Vertices = append(g.Vertices, api.Vertex{ID: id})
	}
	return g
}

// numbered returns the graph with n vertices and edges with these ends and weights, numbered from 0 on.
func numbered(n int, l ...[3]int) api.Graph {
	g := graphOf(n)
	for id, x := range l {
		g.Edges = append(g.Edges, edge(id, x[0], x[1], x[2]))
	}
	return g
}

// edge returns an undirected edge, and to a directed one.
func edge(id, from, to, weight int) api.Edge {
	return api.Edge{ID: id, From: from, To: to, Weight: weight}
}

func to(id, from, to, weight int) api.Edge {
	return api.Edge{ID: id, From: from, To: to, Directed: true, Weight: weight}
}

// example returns the graph of the chapter's example.
func example() api.Graph {
	return numbered(4, [3]int{0, 1, 4}, [3]int{1, 2, 4}, [3]int{2, 0, 4}, [3]int{2, 3, 1})
}

// ring returns a cycle of n vertices, with these weights by turns.
func ring(n int, weights ...int) api.Graph {
	g := graphOf(n)
	for id := range n {
		g.Edges = append(g.Edges, edge(id, id, (id+1)%n, weights[id%len(weights)]))
	}
	return g
}

// complete returns a graph of n vertices with an edge between any two of them.
func complete(n int, weight func(a, b int) int) api.Graph {
	g := graphOf(n)
	for b := range n {
		for a := range b {
			g.Edges = append(g.Edges, edge(len(g.Edges), a, b, weight(a, b)))
		}
	}
	return g
}

// onion returns a graph of 24 vertices, in which a set of 3 is in one of 5, and so on up to 23: each of its layers is a triangle of two vertices and the layers within.
func onion(step int) api.Graph {
	g := graphOf(24)
	for a := 1; a < 23; a += 2 {
		weight := 1000 - step*a
		for _, x := range [][2]int{{a, a + 1}, {a - 1, a}, {max(a-3, 0), a + 1}} {
			g.Edges = append(g.Edges, edge(len(g.Edges), x[0], x[1], weight))
		}
	}
	return g
}

// known returns graphs on which sets enter and leave the family in all the ways that are known to be difficult.
func known() []api.Graph {
	return []api.Graph{
		numbered(5, [3]int{1, 2, 8}, [3]int{1, 3, 9}, [3]int{2, 3, 10}, [3]int{3, 4, 7}),
		numbered(7, [3]int{1, 2, 8}, [3]int{1, 3, 9}, [3]int{2, 3, 10}, [3]int{3, 4, 7}, [3]int{1, 6, 5}, [3]int{4, 5, 6}),
		numbered(7, [3]int{1, 2, 9}, [3]int{1, 3, 8}, [3]int{2, 3, 10}, [3]int{1, 4, 5}, [3]int{4, 5, 4}, [3]int{1, 6, 3}),
		numbered(7, [3]int{1, 2, 9}, [3]int{1, 3, 8}, [3]int{2, 3, 10}, [3]int{1, 4, 5}, [3]int{4, 5, 3}, [3]int{1, 6, 4}),
		numbered(7, [3]int{1, 2, 9}, [3]int{1, 3, 8}, [3]int{2, 3, 10}, [3]int{1, 4, 5}, [3]int{4, 5, 3}, [3]int{3, 6, 4}),
		numbered(7, [3]int{1, 2, 9}, [3]int{1, 3, 9}, [3]int{2, 3, 10}, [3]int{2, 4, 8}, [3]int{3, 5, 8}, [3]int{4, 5, 10}, [3]int{5, 6, 6}),
		numbered(9, [3]int{1, 2, 10}, [3]int{1, 7, 10}, [3]int{2, 3, 12}, [3]int{3, 4, 20}, [3]int{3, 5, 20}, [3]int{4, 5, 25}, [3]int{5, 6, 10}, [3]int{6, 7, 10}, [3]int{7, 8, 8}),
		numbered(9, [3]int{1, 2, 8}, [3]int{1, 3, 8}, [3]int{2, 3, 10}, [3]int{2, 4, 12}, [3]int{3, 5, 12}, [3]int{4, 5, 14}, [3]int{4, 6, 12}, [3]int{5, 7, 12}, [3]int{6, 7, 14}, [3]int{7, 8, 12}),
		numbered(9, [3]int{1, 2, 23}, [3]int{1, 5, 22}, [3]int{1, 6, 15}, [3]int{2, 3, 25}, [3]int{3, 4, 22}, [3]int{4, 5, 25}, [3]int{4, 8, 14}, [3]int{5, 7, 13}),
		numbered(9, [3]int{1, 2, 19}, [3]int{1, 3, 20}, [3]int{1, 8, 8}, [3]int{2, 3, 25}, [3]int{2, 4, 18}, [3]int{3, 5, 18}, [3]int{4, 5, 13}, [3]int{4, 7, 7}, [3]int{5, 6, 7}),
		numbered(11, [3]int{1, 2, 45}, [3]int{1, 5, 45}, [3]int{2, 3, 50}, [3]int{3, 4, 45}, [3]int{4, 5, 50}, [3]int{1, 6, 30}, [3]int{3, 9, 35}, [3]int{4, 8, 35}, [3]int{5, 7, 26}, [3]int{9, 10, 5}),
		numbered(11, [3]int{1, 2, 45}, [3]int{1, 5, 45}, [3]int{2, 3, 50}, [3]int{3, 4, 45}, [3]int{4, 5, 50}, [3]int{1, 6, 30}, [3]int{3, 9, 35}, [3]int{4, 8, 26}, [3]int{5, 7, 40}, [3]int{9, 10, 5}),
		numbered(11, [3]int{1, 2, 45}, [3]int{1, 5, 45}, [3]int{2, 3, 50}, [3]int{3, 4, 45}, [3]int{4, 5, 50}, [3]int{1, 6, 30}, [3]int{3, 9, 35}, [3]int{4, 8, 28}, [3]int{5, 7, 26}, [3]int{9, 10, 5}),
		numbered(13, [3]int{1, 2, 45}, [3]int{1, 7, 45}, [3]int{2, 3, 50}, [3]int{3, 4, 45}, [3]int{4, 5, 95}, [3]int{4, 6, 94}, [3]int{5, 6, 94}, [3]int{6, 7, 50}, [3]int{1, 8, 30}, [3]int{3, 11, 35}, [3]int{5, 9, 36}, [3]int{7, 10, 26}, [3]int{11, 12, 5}),
		numbered(11, [3]int{1, 2, 40}, [3]int{1, 3, 40}, [3]int{2, 3, 60}, [3]int{2, 4, 55}, [3]int{3, 5, 55}, [3]int{4, 5, 50}, [3]int{1, 8, 15}, [3]int{5, 7, 30}, [3]int{7, 6, 10}, [3]int{8, 10, 10}, [3]int{4, 9, 30}),
	}
}

// inParallel calls f for all of l, with their places.
func inParallel[T any](l []T, f func(i int, x T)) {
	var wg sync.WaitGroup
	room := make(chan bool, 8)
	for i, x := range l {
		room <- true
		wg.Go(func() {
			f(i, x)
			<-room
		})
	}
	wg.Wait()
}

// modelsOf returns the models of all of l.
func modelsOf(l []api.Graph) []model {
	all := make([]model, len(l))
	inParallel(l, func(i int, g api.Graph) { all[i] = modelOf(g) })
	return all
}

// samples returns the models of some valid graphs.
var samples = sync.OnceValue(func() []model {
	r := rand.New(rand.NewSource(1))
	l := []api.Graph{{}, graphOf(1), graphOf(24), example()}
	l = append(l, ring(3, 5), ring(5, 7), ring(23, 1000), ring(24, 9), ring(23, 3, 5), ring(21, 9, 8, 7, 6), onion(0), onion(1), onion(40), onion(45))
	l = append(l, complete(9, func(a, b int) int { return 1000 }), complete(9, func(a, b int) int { return a * b }), complete(9, func(a, b int) int { return 40 - (a-b)*(a-b) }), complete(8, func(a, b int) int { return a ^ b }))
	l = append(l, known()...)
	for range 900 {
		l = append(l, randomGraph(r))
	}
	for range 500 {
		l = append(l, crowd(r), garden(r))
	}
	return modelsOf(l)
})

// small returns the models of graphs with up to five vertices, and up to four edges with small weights, or five equal ones.
var small = sync.OnceValue(func() []model {
	l := []api.Graph{graphOf(2)}
	for _, n := range []int{2, 3, 4} {
		var choices []api.Edge
		for b := range n {
			for a := range b {
				choices = append(choices, edge(0, a, b, 0), edge(0, b, a, 1), edge(0, a, b, 3))
			}
		}
		for _, x := range choices {
			x.ID = 3
			l = append(l, graphOf(n, x))
			for _, y := range choices {
				y.ID = 7
				l = append(l, graphOf(n, x, y))
				for _, z := range choices {
					z.ID = 38
					l = append(l, graphOf(n, x, y, z))
				}
			}
		}
	}
	l = append(l, graphOf(1, edge(0, 0, 0, 9)), graphOf(2, edge(0, 0, 1, 5), edge(4, 0, 0, 7)), graphOf(3, edge(0, 0, 1, -1), edge(1, 1, 2, 0), edge(2, 0, 2, -1000)))
	return modelsOf(l)
})

// broken returns graphs that are not valid; all of them have vertices and edges.
func broken() []api.Graph {
	var l []api.Graph
	for _, f := range []func(g *api.Graph){
		func(g *api.Graph) { g.Vertices[3].ID = 24 },
		func(g *api.Graph) { g.Vertices[0].ID = -1 },
		func(g *api.Graph) { g.Vertices[1].ID = 0 },
		func(g *api.Graph) { g.Vertices[0].Side = 4 },
		func(g *api.Graph) { g.Vertices[2].Side = -1 },
		func(g *api.Graph) { slices.Reverse(g.Vertices) },
		func(g *api.Graph) { g.Vertices = g.Vertices[:3] },
		func(g *api.Graph) { g.Edges[2].ID = 40 },
		func(g *api.Graph) { g.Edges[0].ID = math.MinInt },
		func(g *api.Graph) { g.Edges[1].ID = 0 },
		func(g *api.Graph) { slices.Reverse(g.Edges) },
		func(g *api.Graph) { g.Edges[0].From = 4 },
		func(g *api.Graph) { g.Edges[0].To = 24 },
		func(g *api.Graph) { g.Edges[1].Weight = 1001 },
		func(g *api.Graph) { g.Edges[1].Weight = -1001 },
		func(g *api.Graph) { g.Edges[1].Cap = -1 },
		func(g *api.Graph) { g.Depots = []int{4} },
		func(g *api.Graph) { g.Depots = []int{2, 0} },
		func(g *api.Graph) { g.Depots = []int{0, 1, 2, 3} },
	} {
		g := example()
		f(&g)
		l = append(l, g)
	}
	return l
}

// randomGraph returns a valid graph with at least one vertex; weights are few, so that matchings have equal ones, or many.
func randomGraph(r *rand.Rand) api.Graph {
	var g api.Graph
	ids := r.Perm(24)[:1+r.Intn([]int{5, 10, 24}[r.Intn(3)])]
	slices.Sort(ids)
	for _, id := range ids {
		g.Vertices = append(g.Vertices, api.Vertex{ID: id, Side: r.Intn(4)})
		if len(g.Depots) < 3 && r.Intn(5) == 0 {
			g.Depots = append(g.Depots, id)
		}
	}
	least, most := []int{0, 0, 1, -2, -1000, 990}[r.Intn(6)], []int{1, 3, 8, 30, 1000}[r.Intn(5)]
	numbers := r.Perm(40)[:r.Intn(1+[]int{6, 16, 40}[r.Intn(3)])]
	slices.Sort(numbers)
	for _, id := range numbers {
		g.Edges = append(g.Edges, api.Edge{ID: id, From: ids[r.Intn(len(ids))], To: ids[r.Intn(len(ids))], Directed: r.Intn(2) == 0, Weight: min(least+r.Intn(most+1), 1000), Cap: r.Intn(1001)})
	}
	return g
}

// crowd returns a graph of 5 to 18 vertices and all edges, of which each is usable.
func crowd(r *rand.Rand) api.Graph {
	n := 5 + r.Intn(14)
	g := graphOf(n)
	most, least := []int{1, 2, 6, 60, 1001}[r.Intn(5)], 0
	if most <= 60 {
		least = r.Intn(900)
	}
	for id := range 40 {
		a := r.Intn(n)
		g.Edges = append(g.Edges, edge(id, a, (a+1+r.Intn(n-1))%n, least+r.Intn(most)))
	}
	return g
}

// garden returns a graph of 24 vertices with heavy odd cycles, and lighter edges between them and to others, so that sets of vertices enter the family early and leave it later.
func garden(r *rand.Rand) api.Graph {
	ids := r.Perm(24)
	g := graphOf(24)
	numbers := r.Perm(40)
	add := func(a, b, weight int) {
		if len(numbers) > 0 {
			g.Edges = append(g.Edges, edge(numbers[0], a, b, min(weight, 1000)))
			numbers = numbers[1:]
		}
	}
	var inside []int
	for range 1 + r.Intn(4) {
		n := 3 + 2*r.Intn(3)
		if n > len(ids)-3 {
			break
		}
		weight := 30 + r.Intn(60)
		for i, a := range ids[:n] {
			add(a, ids[(i+1)%n], weight+r.Intn(10))
		}
		inside = append(inside, ids[:n]...)
		ids = ids[n:]
	}
	all := r.Perm(24)[:8+r.Intn(16)]
	for len(numbers) > 0 && r.Intn(30) > 0 {
		a, b := inside[r.Intn(len(inside))], all[r.Intn(len(all))]
		if r.Intn(4) == 0 {
			a = all[r.Intn(len(all))]
		}
		add(a, b, r.Intn(60))
	}
	slices.SortFunc(g.Edges, func(a, b api.Edge) int { return a.ID - b.ID })
	return g
}

// must fails the test if e is an error.
func must(t *testing.T, e api.Errno) {
	t.Helper()
	if e != api.OK {
		t.Fatal("error", e)
	}
}
