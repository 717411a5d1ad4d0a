package dist_test

import (
	"fmt"
	"math"
	"math/rand"
	"slices"
	"sync"
	"testing"

	"clearway/api"
)

// arc is a step: from a vertex to another one, or the same one.
type arc struct{ from, to, edge, weight int }

// arcsOf returns the steps of the edges l, by their numbers.
func arcsOf(l []api.Edge) []arc {
	var all []arc
	for _, e := range l {
		all = append(all, arc{e.From, e.To, e.ID, e.Weight})
		if !e.Directed && e.From != e.To {
			all = append(all, arc{e.To, e.From, e.ID, e.Weight})
		}
	}
	slices.SortStableFunc(all, func(a, b arc) int { return a.edge - b.edge })
	return all
}

// far is more than any walk weighs.
const far = 1000000000

// exact says for each number of steps up to 24 how little a walk with so many steps weighs that ends at a vertex, or far if there is none.
type exact [25][24]int

// exactOf returns the weights of the walks over the arcs l from one of the vertices start.
func exactOf(l []arc, start ...int) exact {
	var x exact
	for k := range x {
		for v := range x[k] {
			x[k][v] = far
		}
	}
	for _, v := range start {
		x[0][v] = 0
	}
	for k := 1; k < len(x); k++ {
		for _, a := range l {
			if n := x[k-1][a.from]; n < far {
				x[k][a.to] = min(x[k][a.to], n+a.weight)
			}
		}
	}
	return x
}

// least returns the least weight of a walk to v, the least number of steps of one with it, and the least edge that is the last one of such a walk.
func (x exact) least(l []arc, v int) (int, int, int) {
	weight, steps, edge := far, 0, -1
	for k := range x {
		if x[k][v] < weight {
			weight, steps = x[k][v], k
		}
	}
	if steps == 0 {
		return weight, 0, -1
	}
	for _, a := range l {
		if a.to == v && x[steps-1][a.from]+a.weight == weight && (edge < 0 || a.edge < edge) {
			edge = a.edge
		}
	}
	return weight, steps, edge
}

// unweighed returns the arcs l with the weight 0, so that only the numbers of steps count.
func unweighed(l []arc) []arc {
	l = slices.Clone(l)
	for i := range l {
		l[i].weight = 0
	}
	return l
}

// reachedFrom returns to which vertices walks over the arcs l lead from v.
func reachedFrom(l []arc, v int) [24]bool {
	var seen [24]bool
	var enter func(v int)
	enter = func(v int) {
		if seen[v] {
			return
		}
		seen[v] = true
		for _, a := range l {
			if a.from == v {
				enter(a.to)
			}
		}
	}
	enter(v)
	return seen
}

// endlessFrom returns which vertices are endless from s: those to which a step still leads by less after so many rounds, and all that can be reached from there.
func endlessFrom(l []arc, s int) [24]bool {
	var d [24]int
	for v := range d {
		d[v] = far
	}
	d[s] = 0
	for range 24 {
		for _, a := range l {
			if d[a.from] < far {
				d[a.to] = min(d[a.to], d[a.from]+a.weight)
			}
		}
	}
	var endless [24]bool
	for _, a := range l {
		if d[a.from] == far || d[a.from]+a.weight >= d[a.to] {
			continue
		}
		for v, reached := range reachedFrom(l, a.to) {
			endless[v] = endless[v] || reached
		}
	}
	return endless
}

// closer looks for closed walks of negative weight from a vertex, and remembers from where there is none.
type closer struct {
	arcs   []arc
	anchor int
	not    map[[3]int]bool
}

// close returns the first walk, as a sequence of edges, that leads from v to the anchor by so many steps, and whose weight is negative together with sum.
func (c closer) close(v, steps, sum int) ([]arc, bool) {
	if steps == 0 {
		return nil, v == c.anchor && sum < 0
	}
	if c.not[[3]int{v, steps, sum}] {
		return nil, false
	}
	for _, a := range c.arcs {
		if a.from != v {
			continue
		}
		if rest, found := c.close(a.to, steps-1, sum+a.weight); found {
			return append([]arc{a}, rest...), true
		}
	}
	c.not[[3]int{v, steps, sum}] = true
	return nil, false
}

// cyclesOf returns the cycles of the anchors of all negative classes of g.
func cyclesOf(g api.Graph) [][]arc {
	arcs := arcsOf(g.Edges)
	var reached [24][24]bool
	for v := range reached {
		reached[v] = reachedFrom(arcs, v)
	}
	var all [][]arc
	done := map[int]bool{}
	for _, v := range g.Vertices {
		if done[v.ID] {
			continue
		}
		var class []int
		for w := range 24 {
			if reached[v.ID][w] && reached[w][v.ID] {
				class = append(class, w)
				done[w] = true
			}
		}
		inside := slices.DeleteFunc(slices.Clone(arcs), func(a arc) bool { return !slices.Contains(class, a.from) || !slices.Contains(class, a.to) })
		if endlessFrom(inside, v.ID)[v.ID] {
			all = append(all, cycleIn(inside, class))
		}
	}
	return all
}

// cycleIn returns the cycle of the anchor of a negative class, whose steps are l.
func cycleIn(l []arc, class []int) []arc {
	for steps := 1; steps <= len(class); steps++ {
		for _, v := range class {
			if c, found := (closer{l, v, map[[3]int]bool{}}).close(v, steps, 0); found {
				return c
			}
		}
	}
	panic("no cycle")
}

// blocksFor returns the blocks of the vertices of g for the depot s, with these cycles.
func blocksFor(g api.Graph, s int, cycles [][]arc) map[int][]int {
	return blocksAs(g, s, cycles, endlessFrom(arcsOf(g.Edges), s))
}

// blocksAs does the same if these vertices are endless, and no others.
func blocksAs(g api.Graph, s int, cycles [][]arc, endless [24]bool) map[int][]int {
	arcs := arcsOf(g.Edges)
	reached := reachedFrom(arcs, s)
	var anchors []int
	for _, c := range cycles {
		if reached[c[0].from] {
			anchors = append(anchors, c[0].from)
		}
	}
	hops, weights, escapes := exactOf(unweighed(arcs), s), exactOf(arcs, s), exactOf(unweighed(arcs), anchors...)
	all := map[int][]int{}
	for _, v := range g.Vertices {
		id := v.ID
		_, n, edge := hops.least(unweighed(arcs), id)
		switch {
		case !reached[id]:
			all[id] = make([]int, 9)
		case endless[id]:
			_, m, by := escapes.least(unweighed(arcs), id)
			all[id] = append([]int{2, n, edge, m, by}, onCycle(cycles, id)...)
		default:
			d, m, by := weights.least(arcs, id)
			all[id] = []int{1, n, edge, d, m, by, 0, 0, 0}
		}
	}
	return all
}

// onCycle returns what a block says of the cycle on which the vertex id is.
func onCycle(cycles [][]arc, id int) []int {
	for _, c := range cycles {
		sum := 0
		for i, a := range c {
			if a.from == id {
				return []int{c[0].from, i, sum, a.edge}
			}
			sum += a.weight
		}
	}
	return []int{-1, 0, 0, -1}
}

// labelsWith returns the labels of the vertices of g with these cycles.
func labelsWith(g api.Graph, cycles [][]arc) []api.Named {
	var l []api.Named
	for _, v := range g.Vertices {
		l = append(l, api.Named{ID: v.ID})
	}
	for _, s := range g.Depots {
		b := blocksFor(g, s, cycles)
		for i := range l {
			l[i].Label = append(l[i].Label, b[l[i].ID]...)
		}
	}
	return l
}

// modelOf returns the labels of the valid graph g.
func modelOf(g api.Graph) []api.Named { return labelsWith(g, cyclesOf(g)) }

// source is a step to a vertex from another one, and what is said of this one.
type source struct {
	arc
	block []int
}

// seen is a view whose first condition is true: for one depot, the vertex, the sources and the steps from it, and all blocks.
type seen struct {
	id, depot int
	sources   []source
	out       []arc
	blocks    map[int][]int
}

// firstLabel returns the first label of the vertex id in v.
func firstLabel(v api.View, id int) ([]int, bool) {
	for _, x := range v.Labels {
		if x.ID == id {
			return x.Label, true
		}
	}
	return nil, false
}

// inside reports whether all of l are from least to most.
func inside(least, most int, l ...int) bool {
	for _, n := range l {
		if n < least || n > most {
			return false
		}
	}
	return true
}

// firstFits is the first condition.
func firstFits(v api.View) bool {
	id := v.Vertex.ID
	ends := []int{id}
	for i, e := range v.Edges {
		for _, x := range v.Edges[:i] {
			if x.ID == e.ID {
				return false
			}
		}
		if !inside(0, 39, e.ID) || !inside(0, 23, e.From, e.To) || !inside(-1000, 1000, e.Weight) {
			return false
		}
		switch {
		case e.From == id:
			ends = append(ends, e.To)
		case e.To == id:
			ends = append(ends, e.From)
		default:
			return false
		}
	}
	if len(v.Depots) > 3 {
		return false
	}
	for _, u := range ends {
		l, found := firstLabel(v, u)
		if !found || len(l) != 9*len(v.Depots) || !inside(-24000, 24000, l...) {
			return false
		}
		for i := range v.Depots {
			if !inside(0, 2, l[9*i]) {
				return false
			}
		}
	}
	return true
}

// seenFor returns what is seen in v for the depot with the index i, if the first condition is true.
func seenFor(v api.View, i int) seen {
	s := seen{id: v.Vertex.ID, depot: v.Depots[i], blocks: map[int][]int{}}
	for _, x := range append([]arc{{from: s.id, to: s.id}}, arcsOf(v.Edges)...) {
		for _, u := range []int{x.from, x.to} {
			l, _ := firstLabel(v, u)
			s.blocks[u] = l[9*i : 9*i+9]
		}
	}
	for _, a := range arcsOf(v.Edges) {
		if a.to == s.id && a.from != s.id {
			s.sources = append(s.sources, source{a, s.blocks[a.from]})
		}
		if a.from == s.id {
			s.out = append(s.out, a)
		}
	}
	return s
}

// isGood reports what Good should: the chapter's conditions, one by one.
func isGood(v api.View) bool {
	if !firstFits(v) {
		return false
	}
	for i := range v.Depots {
		s := seenFor(v, i)
		if !s.secondFits() || !s.thirdFits() || !s.fourthFits() {
			return false
		}
	}
	return true
}

// secondFits is the second condition.
func (s seen) secondFits() bool {
	b := s.blocks[s.id]
	if s.id == s.depot {
		return b[0] != 0 && b[1] == 0 && b[2] == -1
	}
	least, edge := far, far
	for _, x := range s.sources {
		if x.block[0] != 0 {
			least = min(least, x.block[1])
		}
	}
	if least == far {
		return slices.Equal(b, make([]int, 9))
	}
	for _, x := range s.sources {
		if x.block[0] != 0 && x.block[1] == least {
			edge = min(edge, x.edge)
		}
	}
	return b[0] != 0 && b[1] == least+1 && b[2] == edge
}

// thirdFits is the third condition.
func (s seen) thirdFits() bool {
	b := s.blocks[s.id]
	if b[0] != 1 {
		return true
	}
	least := far
	for _, x := range s.sources {
		if x.block[0] == 2 {
			return false
		}
		if x.block[0] == 1 {
			least = min(least, x.block[3]+x.weight)
		}
	}
	for _, a := range s.out {
		if a.to == s.id && a.weight < 0 {
			return false
		}
	}
	if b[6] != 0 || b[7] != 0 || b[8] != 0 {
		return false
	}
	if s.id == s.depot {
		return b[3] == 0 && b[4] == 0 && b[5] == -1 && least >= 0
	}
	steps, edge := far, far
	for _, x := range s.sources {
		if x.block[0] == 1 && x.block[3]+x.weight == least {
			steps = min(steps, x.block[4])
		}
	}
	for _, x := range s.sources {
		if x.block[0] == 1 && x.block[3]+x.weight == least && x.block[4] == steps {
			edge = min(edge, x.edge)
		}
	}
	return least < far && b[3] == least && b[4] == steps+1 && b[5] == edge
}

// fourthFits is the fourth condition. An anchor is the number of a vertex.
func (s seen) fourthFits() bool {
	b := s.blocks[s.id]
	if b[0] != 2 {
		return true
	}
	free := slices.Equal(b[5:], []int{-1, 0, 0, -1})
	if b[5] == s.id && !free {
		return b[3] == 0 && b[4] == -1 && s.cycleFits()
	}
	least, edge := far, far
	for _, x := range s.sources {
		if x.block[0] == 2 {
			least = min(least, x.block[3])
		}
	}
	for _, x := range s.sources {
		if x.block[0] == 2 && x.block[3] == least {
			edge = min(edge, x.edge)
		}
	}
	return least < far && b[3] > 0 && b[3] == least+1 && b[4] == edge && (free || s.cycleFits())
}

// cycleFits is the second half of the fourth condition, for a vertex that tells an anchor.
func (s seen) cycleFits() bool {
	b := s.blocks[s.id]
	anchor, position, sum, edge := b[5], b[6], b[7], b[8]
	if !inside(0, 23, anchor, position) || position == 0 && anchor != s.id || position != 0 && anchor == s.id || anchor == s.id && sum != 0 {
		return false
	}
	for _, a := range s.out {
		c := s.blocks[a.to]
		if a.edge != edge || c[0] != 2 || c[5] != anchor {
			continue
		}
		if c[6] == position+1 && c[7] == sum+a.weight {
			return true
		}
		if a.to == anchor && c[6] == 0 && sum+a.weight < 0 {
			return true
		}
	}
	return false
}

// countOf returns what Count should return.
func countOf(v api.View) int {
	l, _ := firstLabel(v, v.Vertex.ID)
	if len(l) != 9*len(v.Depots) || !inside(-24000, 24000, l...) {
		return 0
	}
	sum := 0
	for i := 0; i < len(l); i += 9 {
		if l[i] == 1 {
			sum += l[i+3]
		}
	}
	return sum
}

// viewOf returns the view of the vertex id of g with the labels l.
func viewOf(g api.Graph, l []api.Named, id int) api.View {
	v := api.View{Depots: g.Depots}
	near := map[int]bool{id: true}
	for _, x := range g.Vertices {
		if x.ID == id {
			v.Vertex = x
		}
	}
	for _, e := range g.Edges {
		if e.From == id || e.To == id {
			v.Edges = append(v.Edges, e)
			near[e.From], near[e.To] = true, true
		}
	}
	for _, x := range l {
		if near[x.ID] {
			v.Labels = append(v.Labels, x)
		}
	}
	return v
}

// text returns x as a text, in which nil and empty lists are equal.
func text(x any) string { return fmt.Sprintf("%+v", x) }

// graphOf returns the graph with the vertices ids, the depots and the edges l.
func graphOf(ids, depots []int, l ...api.Edge) api.Graph {
	g := api.Graph{Edges: l, Depots: depots}
	for _, id := range ids {
		g.Vertices = append(g.Vertices, api.Vertex{ID: id})
	}
	return g
}

// to returns a directed edge, and both an undirected one.
func to(id, from, to, weight int) api.Edge {
	return api.Edge{ID: id, From: from, To: to, Directed: true, Weight: weight}
}

func both(id, from, to, weight int) api.Edge {
	return api.Edge{ID: id, From: from, To: to, Weight: weight}
}

// example returns the graph of the chapter's example, with this weight of the loop.
func example(loop int) api.Graph {
	return graphOf([]int{0, 1, 2, 3}, []int{0}, to(0, 0, 1, 4), to(1, 0, 2, 1), to(2, 2, 1, 2), to(3, 1, 1, loop))
}

// ring returns a graph whose 24 vertices are all on one closed walk, with the weights first, for the step from 23 to 0, and other. Depots are 0, 7 and 23.
func ring(first, other int) api.Graph {
	g := graphOf(nil, []int{0, 7, 23})
	for id := range 24 {
		g.Vertices = append(g.Vertices, api.Vertex{ID: id})
		w := other
		if id == 23 {
			w = first
		}
		g.Edges = append(g.Edges, to(id+3, id, (id+1)%24, w))
	}
	return g
}

// samples returns some valid graphs.
var samples = sync.OnceValue(func() []api.Graph {
	r := rand.New(rand.NewSource(1))
	l := []api.Graph{{}, graphOf([]int{23}, nil), graphOf([]int{23}, []int{23}), example(0), example(-1), ring(0, 0), ring(-1, 0), ring(1000, -1000), ring(-1000, 1000), ring(1000, 1000), ring(-1000, -1000), ring(23, -1), ring(22, -1)}
	for range 500 {
		l = append(l, randomGraph(r))
	}
	return l
})

// small returns graphs with up to three vertices, and up to two edges between any of them, and triangles.
var small = sync.OnceValue(func() []api.Graph {
	var l []api.Graph
	kinds := []func(id, from, to, weight int) api.Edge{to, both}
	for _, ids := range [][]int{{0}, {23}, {0, 1}, {3, 23}, {0, 1, 2}} {
		for _, depots := range [][]int{nil, ids[:1], ids[len(ids)-1:], ids} {
			l = append(l, graphOf(ids, depots))
			for _, a := range ids {
				for _, b := range ids {
					for i, f := range kinds {
						for _, w := range []int{-1, 0, 1} {
							l = append(l, graphOf(ids, depots, f(5, a, b, w)))
							for _, c := range ids[:1] {
								for _, d := range ids {
									l = append(l, graphOf(ids, depots, f(5, a, b, w), kinds[i](6, d, c, 0)), graphOf(ids, depots, to(2, c, d, 2), f(5, a, b, w)), graphOf(ids, depots, f(5, a, b, 2*w), to(8, d, b, -1)))
								}
							}
						}
					}
				}
			}
		}
	}
	ids := []int{2, 9, 23}
	for _, w := range [][3]int{{0, 0, 0}, {1, 2, 3}, {2, -3, 1}, {3, -1, -2}, {-1, -1, -2}, {-1, 1, 1}, {4, -2, -3}} {
		for _, depots := range [][]int{{2}, {9}, {2, 9, 23}} {
			l = append(l, graphOf(ids, depots, to(5, 2, 9, w[0]), to(6, 9, 23, w[1]), to(7, 23, 2, w[2])), graphOf(ids, depots, to(5, 9, 2, w[0]), to(6, 9, 23, w[1]), to(7, 23, 2, w[2]), to(39, 2, 9, 1)), graphOf(ids, depots, both(5, 9, 2, w[0]), to(6, 9, 23, w[1]), both(7, 23, 2, w[2])))
		}
	}
	return l
})

// fewer returns some of small, for what takes more time.
func fewer() []api.Graph {
	var l []api.Graph
	for i, g := range small() {
		if i%5 == 0 {
			l = append(l, g)
		}
	}
	return l
}

// broken returns graphs that are not valid; all of them have vertices and edges.
func broken() []api.Graph {
	var l []api.Graph
	for _, f := range []func(g *api.Graph){
		func(g *api.Graph) { g.Vertices[3].ID = 24 },
		func(g *api.Graph) { g.Vertices[0].ID = -1 },
		func(g *api.Graph) { g.Vertices[1].ID = 0 },
		func(g *api.Graph) { g.Vertices[0].Side = 4 },
		func(g *api.Graph) { slices.Reverse(g.Vertices) },
		func(g *api.Graph) { g.Vertices = g.Vertices[1:] },
		func(g *api.Graph) { g.Edges[3].ID = 40 },
		func(g *api.Graph) { g.Edges[0].ID = math.MinInt },
		func(g *api.Graph) { g.Edges[1].ID = 0 },
		func(g *api.Graph) { slices.Reverse(g.Edges) },
		func(g *api.Graph) { g.Edges[0].From = 4 },
		func(g *api.Graph) { g.Edges[0].To = 24 },
		func(g *api.Graph) { g.Edges[1].Weight = 1001 },
		func(g *api.Graph) { g.Edges[1].Weight = math.MinInt },
		func(g *api.Graph) { g.Edges[1].Cap = -1 },
		func(g *api.Graph) { g.Depots = []int{0, 4} },
		func(g *api.Graph) { g.Depots = []int{2, 0} },
		func(g *api.Graph) { g.Depots = []int{0, 0} },
		func(g *api.Graph) { g.Depots = []int{0, 1, 2, 3} },
	} {
		g := example(0)
		f(&g)
		l = append(l, g)
	}
	return l
}

// randomGraph returns a valid graph with at least one vertex. Its closed walks have no negative weight, as all steps go up and down between heights, unless some weights are made less then.
func randomGraph(r *rand.Rand) api.Graph {
	var g api.Graph
	ids := r.Perm(24)[:1+r.Intn([]int{4, 9, 24}[r.Intn(3)])]
	edges := r.Perm(40)[:r.Intn(1+[]int{6, 16, 40}[r.Intn(3)])]
	near, most, undirected := r.Intn(2) == 0, []int{0, 1, 3, 300}[r.Intn(4)], r.Intn(4)
	var heights [24]int
	for i := range heights {
		heights[i] = r.Intn(most + 1)
	}
	for i, id := range edges {
		from, to := r.Intn(len(ids)), r.Intn(len(ids))
		if near {
			from = i % len(ids)
			to = (from + 1 + r.Intn(3)/2) % len(ids)
		}
		e := api.Edge{ID: id, From: ids[from], To: ids[to], Directed: r.Intn(6) >= undirected, Weight: heights[ids[to]] - heights[ids[from]], Cap: r.Intn(1001)}
		if !e.Directed {
			e.Weight = max(e.Weight, -e.Weight)
		}
		if r.Intn(2) == 0 {
			e.Weight += r.Intn(most + 1)
		}
		g.Edges = append(g.Edges, e)
	}
	if r.Intn(2) == 0 && len(g.Edges) > 0 {
		for range 1 + r.Intn(3) {
			e := &g.Edges[r.Intn(len(g.Edges))]
			e.Weight = max(e.Weight-1-r.Intn(most+1), -1000)
		}
	}
	slices.SortFunc(g.Edges, func(a, b api.Edge) int { return a.ID - b.ID })
	slices.Sort(ids)
	none := r.Intn(10) == 0
	for i, id := range ids {
		g.Vertices = append(g.Vertices, api.Vertex{ID: id, Side: r.Intn(4)})
		if !none && len(g.Depots) < 3 && (r.Intn(4) == 0 || len(g.Depots) == 0 && i == len(ids)-1) {
			g.Depots = append(g.Depots, id)
		}
	}
	return g
}

// must fails the test if e is an error.
func must(t *testing.T, e api.Errno) {
	t.Helper()
	if e != api.OK {
		t.Fatal("error", e)
	}
}
