package dist_test

import (
	"math/rand"
	"slices"
	"sync"
	"testing"

	"clearway/api"
	"clearway/dist"
	"clearway/graph"
	"clearway/page"
)

// labelsOf returns the labels of g.
func labelsOf(t *testing.T, g api.Graph) []api.Named {
	t.Helper()
	l, e := dist.Labels(g)
	must(t, e)
	return l
}

// blocksIn returns the blocks of the labels l for the depot with the index i, by their vertices.
func blocksIn(l []api.Named, i int) map[int][]int {
	m := map[int][]int{}
	for _, x := range l {
		m[x.ID] = x.Label[9*i : 9*i+9]
	}
	return m
}

// walkOver returns the steps of a walk from v over the edges with these numbers.
func walkOver(t *testing.T, g api.Graph, v int, edges []int) []arc {
	t.Helper()
	var l []arc
	for _, id := range edges {
		i := slices.IndexFunc(arcsOf(g.Edges), func(a arc) bool { return a.edge == id && a.from == v })
		if i < 0 {
			t.Fatalf("the edge %d does not lead from %d in %+v", id, v, g)
		}
		a := arcsOf(g.Edges)[i]
		l, v = append(l, a), a.to
	}
	return l
}

// weightOf returns the weight of a walk.
func weightOf(l []arc) int {
	sum := 0
	for _, a := range l {
		sum += a.weight
	}
	return sum
}

// startOf returns where the walk l begins, which ends at v; and endOf where it ends, if it begins there.
func startOf(l []arc, v int) int {
	if len(l) == 0 {
		return v
	}
	return l[0].from
}

func endOf(l []arc, v int) int {
	if len(l) == 0 {
		return v
	}
	return l[len(l)-1].to
}

// led returns the steps that lead to v by the edges of the blocks b, which are at that place of them, behind their numbers of steps.
func led(t *testing.T, g api.Graph, b map[int][]int, v, at int) []arc {
	t.Helper()
	var l []arc
	for b[v][at-1] > 0 {
		a := arcBy(t, g, v, b[v][at])
		l, v = append(l, a), a.from
	}
	slices.Reverse(l)
	return l
}

// after returns how little a walk of at most so many steps from s to each vertex weighs, or far if there is none.
func after(l []arc, s, steps int) [24]int {
	var d [24]int
	for v := range d {
		d[v] = far
	}
	d[s] = 0
	for range steps {
		next := d
		for _, a := range l {
			if d[a.from] < far {
				next[a.to] = min(next[a.to], d[a.from]+a.weight)
			}
		}
		d = next
	}
	return d
}

// P11.2: a distance is the weight of a walk, and no walk weighs less, however many steps it has; to endless vertices, walks with more steps weigh less; to others that are not reached, there is none.
func TestStatesAndDistances(t *testing.T) {
	states := map[int]int{}
	for _, g := range slices.Concat(samples(), small()) {
		l := labelsOf(t, g)
		for i, s := range g.Depots {
			b := blocksIn(l, i)
			some, more := after(arcsOf(g.Edges), s, 24), after(arcsOf(g.Edges), s, 100)
			for v, x := range b {
				right := false
				switch x[0] {
				case 0:
					right = more[v] == far
				case 1:
					w := led(t, g, b, v, 5)
					right = weightOf(w) == x[3] && len(w) == x[4] && startOf(w, v) == s && some[v] == x[3] && more[v] == x[3]
				case 2:
					right = more[v] < some[v]
				}
				if !right {
					t.Fatalf("%d from %d in %+v: %v, %d, %d", v, s, g, x, some[v], more[v])
				}
				states[x[0]]++
			}
		}
	}
	if states[0] < 1000 || states[1] < 1000 || states[2] < 1000 {
		t.Error("too few of some state:", states)
	}
}

// P11.2: to an endless vertex, there is a walk over an anchor, whose cycle makes it less as often as one likes.
func TestEndlessVertices(t *testing.T) {
	endless := 0
	for _, g := range slices.Concat(samples(), small()) {
		l := labelsOf(t, g)
		for i, s := range g.Depots {
			b := blocksIn(l, i)
			for v, x := range b {
				if x[0] != 2 {
					continue
				}
				endless++
				out := led(t, g, b, v, 4)
				anchor := startOf(out, v)
				edges, e := dist.Cycle(g, s, v)
				must(t, e)
				round, in := walkOver(t, g, anchor, edges), led(t, g, b, anchor, 2)
				if weightOf(round) >= 0 || endOf(round, anchor) != anchor || startOf(in, anchor) != s || len(in) != b[anchor][1] || len(out) != x[3] {
					t.Fatalf("%d from %d in %+v: %v, %v, %v", v, s, g, in, round, out)
				}
			}
		}
	}
	if endless < 2000 {
		t.Error("too few endless vertices:", endless)
	}
}

// P11.2: of all walks with up to five steps, one by one, in graphs of up to three vertices, the least one to a vertex has its distance, if it has one, and none leads to a vertex that cannot be reached.
func TestAllShortWalks(t *testing.T) {
	for _, g := range small() {
		l := labelsOf(t, g)
		arcs := arcsOf(g.Edges)
		for i, s := range g.Depots {
			least := map[int]int{}
			var walk func(v, steps, sum int)
			walk = func(v, steps, sum int) {
				if n, known := least[v]; !known || sum < n {
					least[v] = sum
				}
				for _, a := range arcs {
					if a.from == v && steps > 0 {
						walk(a.to, steps-1, sum+a.weight)
					}
				}
			}
			walk(s, 5, 0)
			for v, x := range blocksIn(l, i) {
				if n, known := least[v]; known != (x[0] != 0) || x[0] == 1 && n != x[3] {
					t.Fatalf("%d from %d in %+v: %v, %d", v, s, g, x, n)
				}
			}
		}
	}
}

// allGood reports whether the views of all vertices of g with the labels l are good.
func allGood(t *testing.T, g api.Graph, l []api.Named) bool {
	t.Helper()
	good := true
	for _, x := range g.Vertices {
		good = wantView(t, viewOf(g, l, x.ID)) && good
	}
	return good
}

// P11.3: all views of a graph with its labels are good, as package page makes them.
func TestLabelsAreGood(t *testing.T) {
	for _, g := range slices.Concat(samples(), small()) {
		l := labelsOf(t, g)
		for _, x := range g.Vertices {
			v, e := page.View(g, l, x.ID)
			if must(t, e); !wantView(t, v) {
				t.Fatalf("%d in %+v: %v", x.ID, g, l)
			}
		}
	}
}

// said returns what the labels l say as far as it is unique: states, numbers of steps, distances and edges, but not from which anchors endless vertices are reached, nor on which cycles they are.
func said(l []api.Named) string {
	s := ""
	for _, x := range l {
		for i := 0; i+9 <= len(x.Label); i += 9 {
			b := x.Label[i : i+9]
			if b[0] == 2 {
				b = b[:3]
			}
			s += text(b)
		}
		s += "; "
	}
	return s
}

// trial tries labels of the vertices of a graph.
type trial struct {
	views  []api.View
	labels []api.Named
	want   string
	found  int
}

// trialOf returns a trial of g.
func trialOf(t *testing.T, g api.Graph) *trial {
	r := &trial{labels: labelsOf(t, g)}
	r.want = said(r.labels)
	for _, x := range g.Vertices {
		r.views = append(r.views, viewOf(g, r.labels, x.ID))
	}
	return r
}

// look reports whether no view is good everywhere unless the labels say what is true, and counts how often these were found.
func (r *trial) look() bool {
	for _, v := range r.views {
		v.Labels = r.labels
		if !dist.Good(v) {
			return true
		}
	}
	r.found++
	return said(r.labels) == r.want
}

// inParallel calls f for all of l.
func inParallel(l []api.Graph, f func(g api.Graph)) {
	var wg sync.WaitGroup
	room := make(chan bool, 8)
	for _, g := range l {
		room <- true
		wg.Go(func() {
			f(g)
			<-room
		})
	}
	wg.Wait()
}

// candidates returns blocks for a vertex of the graph g of two vertices: those that are made of small numbers, and of its vertices and edges.
func candidates(g api.Graph) [][]int {
	a, b := g.Vertices[0].ID, g.Vertices[1].ID
	edges := []int{-1}
	for _, e := range g.Edges {
		edges = append(edges, e.ID)
	}
	if len(g.Edges) == 0 {
		edges = append(edges, 9)
	}
	l := numbersOf([]int{0}, []int{0, 1}, edges[:2], []int{0, 1}, []int{0}, []int{0}, []int{0}, []int{0}, []int{0})
	l = append(l, nothing())
	l = append(l, numbersOf([]int{1}, []int{0, 1, 2}, edges, []int{-2, -1, 0, 1, 2}, []int{0, 1, 2}, edges, []int{0}, []int{0}, []int{0})...)
	for _, hops := range [][]int{{2, 0, -1}, {2, 1, edges[1]}, {2, 1, edges[len(edges)-1]}}[:len(edges)] {
		for _, escape := range numbersOf([]int{0, 1, 2}, edges) {
			for _, mark := range append(numbersOf([]int{a, b}, []int{0, 1}, []int{-2, -1, 0, 1}, edges[1:]), []int{-1, 0, 0, -1}) {
				l = append(l, slices.Concat(hops, escape, mark))
			}
		}
	}
	return l
}

// twins returns graphs of two vertices, with up to two edges, and one depot.
func twins() []api.Graph {
	ids, far := []int{0, 1}, []int{4, 23}
	return []api.Graph{
		graphOf(ids, []int{0}),
		graphOf(ids, []int{0}, to(0, 0, 1, 1)),
		graphOf(ids, []int{1}, to(0, 0, 1, 1)),
		graphOf(ids, []int{0}, both(3, 0, 1, 0)),
		graphOf(far, []int{23}, both(3, 4, 23, 1)),
		graphOf(ids, []int{1}, both(3, 0, 1, -1)),
		graphOf(ids, []int{0}, to(0, 0, 0, -1)),
		graphOf(ids, []int{1}, to(0, 0, 0, -1)),
		graphOf(ids, []int{0}, to(0, 0, 0, -1), to(1, 0, 1, 2)),
		graphOf(ids, []int{0}, both(0, 1, 1, 0), to(1, 0, 1, -2)),
		graphOf(far, []int{4}, to(7, 23, 23, -1), to(9, 4, 23, 2)),
		graphOf(ids, []int{0}, to(0, 0, 1, 1), to(1, 1, 0, -1)),
		graphOf(ids, []int{0}, to(0, 0, 1, 1), to(1, 1, 0, -2)),
		graphOf(ids, []int{1}, to(0, 0, 1, 0), to(1, 1, 0, 0)),
		graphOf(ids, []int{0}, to(0, 0, 1, 1), to(1, 0, 1, 1)),
		graphOf(ids, []int{0}, both(0, 0, 1, 1), to(1, 1, 0, -1)),
	}
}

// P11.3: no other labels are good everywhere than those that say what is true: all candidates for both vertices of graphs with two are tried together.
func TestOnlyTrueLabelsAreGood(t *testing.T) {
	inParallel(twins(), func(g api.Graph) {
		r := trialOf(t, g)
		all := candidates(g)
		for _, x := range all {
			r.labels[0].Label = x
			for _, y := range all {
				r.labels[1].Label = y
				if !r.look() {
					t.Errorf("%+v: %v", g, r.labels)
					return
				}
			}
		}
		if r.found == 0 {
			t.Errorf("%+v: none", g)
		}
	})
}

// claim is what somebody says of a vertex, true or not: the state, and, in the state 1, the distance and the number of steps for it; in the state 2, the number of steps from an anchor, and the edge of a cycle of one step.
type claim struct{ state, distance, steps, loop int }

// told returns the labels that are as true as they can be where the claims are what they are: all other numbers are what follows from them.
func told(g api.Graph, claims []claim) []api.Named {
	arcs := arcsOf(g.Edges)
	by := map[int]claim{}
	for i, v := range g.Vertices {
		by[v.ID] = claims[i]
	}
	known := slices.DeleteFunc(slices.Clone(arcs), func(a arc) bool { return by[a.from].state == 0 || by[a.to].state == 0 })
	hops := exactOf(unweighed(known), g.Depots[0])
	var l []api.Named
	for i, v := range g.Vertices {
		c := claims[i]
		_, n, edge := hops.least(unweighed(known), v.ID)
		last := -1
		for _, a := range slices.Backward(arcs) {
			u := by[a.from]
			if a.to == v.ID && a.from != v.ID && u.state == c.state && u.steps == c.steps-1 && (c.state != 1 || u.distance+a.weight == c.distance) {
				last = a.edge
			}
		}
		b := nothing()
		switch {
		case c.state == 1:
			b = []int{1, n, edge, c.distance, c.steps, last, 0, 0, 0}
		case c.state == 2 && c.loop >= 0:
			b = []int{2, n, edge, c.steps, last, v.ID, 0, 0, c.loop}
		case c.state == 2:
			b = []int{2, n, edge, c.steps, last, -1, 0, 0, -1}
		}
		l = append(l, api.Named{ID: v.ID, Label: b})
	}
	return l
}

// P11.3: whatever states, distances and numbers of steps are claimed for the three vertices of a graph, with all else as true as it can be.
func TestClaimsOfThree(t *testing.T) {
	var l []api.Graph
	for _, g := range fewer() {
		if len(g.Vertices) == 3 && len(g.Depots) == 1 && len(g.Edges) > 1 {
			l = append(l, g)
		}
	}
	inParallel(l, func(g api.Graph) {
		choices, edges := []claim{{}}, []int{-1}
		for _, e := range g.Edges {
			edges = append(edges, e.ID)
		}
		for _, x := range numbersOf([]int{-2, -1, 0, 1, 2}, []int{0, 1, 2, 3}) {
			choices = append(choices, claim{1, x[0], x[1], 0})
		}
		for _, x := range numbersOf([]int{0, 1, 2}, edges) {
			choices = append(choices, claim{2, 0, x[0], x[1]})
		}
		r := trialOf(t, g)
		for _, a := range choices {
			for _, b := range choices {
				for _, c := range choices {
					r.labels = told(g, []claim{a, b, c})
					if !r.look() {
						t.Errorf("%+v: %v", g, r.labels)
						return
					}
				}
			}
		}
	})
}

// closedWalk returns a closed walk of g from some vertex that visits no vertex twice, if one is found: as long as it does not come back, it goes on at random to where it was not.
func closedWalk(r *rand.Rand, g api.Graph) ([]arc, bool) {
	arcs := arcsOf(g.Edges)
	if len(arcs) == 0 {
		return nil, false
	}
	begin := arcs[r.Intn(len(arcs))].from
	at, been := begin, map[int]bool{}
	var l []arc
	for {
		been[at] = true
		var next []arc
		for _, a := range arcs {
			if a.from == at && (a.to == begin || !been[a.to]) {
				next = append(next, a)
			}
		}
		if len(next) == 0 {
			return nil, false
		}
		a := next[r.Intn(len(next))]
		l, at = append(l, a), a.to
		if at == begin {
			return l, true
		}
	}
}

// otherCycles returns labels of g where a closed walk is taken for the cycle of an anchor, whatever it weighs: instead of that of its class, or as well. All vertices that can be reached from there are endless then.
func otherCycles(r *rand.Rand, g api.Graph) []api.Named {
	cycles, arcs := cyclesOf(g), arcsOf(g.Edges)
	c, found := closedWalk(r, g)
	for range r.Intn(2) * 20 {
		if !found || weightOf(c) >= 0 {
			c, found = closedWalk(r, g)
		}
	}
	if !found {
		return modelOf(g)
	}
	begin := c[0].from
	if r.Intn(4) > 0 {
		cycles = slices.DeleteFunc(cycles, func(x []arc) bool {
			return reachedFrom(arcs, begin)[x[0].from] && reachedFrom(arcs, x[0].from)[begin]
		})
	}
	cycles = append([][]arc{c}, cycles...)
	var l []api.Named
	for _, v := range g.Vertices {
		l = append(l, api.Named{ID: v.ID})
	}
	for _, s := range g.Depots {
		endless := endlessFrom(arcs, s)
		for v, reached := range reachedFrom(arcs, begin) {
			endless[v] = endless[v] || reached && reachedFrom(arcs, s)[begin]
		}
		for id, b := range blocksAs(g, s, cycles, endless) {
			i := slices.IndexFunc(l, func(x api.Named) bool { return x.ID == id })
			l[i].Label = append(l[i].Label, b...)
		}
	}
	return l
}

// notEndless returns labels of g where no vertex is endless, but has the least weight of the walks with few steps as its distance.
func notEndless(g api.Graph) []api.Named {
	var l []api.Named
	for _, v := range g.Vertices {
		l = append(l, api.Named{ID: v.ID})
	}
	for _, s := range g.Depots {
		b := blocksAs(g, s, nil, [24]bool{})
		for i := range l {
			l[i].Label = append(l[i].Label, b[l[i].ID]...)
		}
	}
	return l
}

// lieInside changes the labels l of all vertices that some vertex reaches, or of its class, in the block i, as somebody would who wants to be believed.
func lieInside(r *rand.Rand, g api.Graph, l []api.Named) {
	arcs := arcsOf(g.Edges)
	some := g.Vertices[r.Intn(len(g.Vertices))].ID
	reached, class, kind, by := reachedFrom(arcs, some), r.Intn(2) == 0, r.Intn(4), 2*r.Intn(2)-1
	i := 9 * r.Intn(max(len(g.Depots), 1))
	for _, x := range l {
		if !reached[x.ID] || class && !reachedFrom(arcs, x.ID)[some] || len(x.Label) == 0 {
			continue
		}
		switch b := x.Label[i : i+9]; kind {
		case 0: // all of them are nearer, or farther
			b[3] += by
		case 1: // by walks of more or less steps
			b[4-b[0]/2] += by
		case 2: // or more or less steps away from the depot
			b[1] += by
		case 3: // or cannot be reached, or are at the distance 0, or endless
			b[0] = (b[0] + 3 + by) % 3
		}
	}
}

// lie returns other labels than those of g, as if some of it were different; now and then the same ones, or some that are as good.
func lie(t *testing.T, r *rand.Rand, g api.Graph) []api.Named {
	l := labelsOf(t, g)
	h := g
	h.Edges = slices.Clone(g.Edges)
	some, other := l[r.Intn(len(l))], l[r.Intn(len(l))]
	switch r.Intn(10) {
	case 0: // one number of one label
		if len(some.Label) > 0 {
			some.Label[r.Intn(len(some.Label))] += r.Intn(7) - 3
		}
		return l
	case 1: // the label of another vertex
		copy(some.Label, other.Label)
		return l
	case 2: // another weight, or two
		for range 1 + r.Intn(2) {
			if len(h.Edges) > 0 {
				h.Edges[r.Intn(len(h.Edges))].Weight = r.Intn(7) - 3
			}
		}
	case 3: // without an edge
		if i := r.Intn(len(h.Edges) + 1); i < len(h.Edges) {
			h.Edges = slices.Delete(h.Edges, i, i+1)
		}
	case 4: // with a further edge
		if x, e := graph.Apply(g, api.Change{Kind: api.CAddEdge, Edge: to(r.Intn(40), some.ID, other.ID, r.Intn(7)-3)}); e == api.OK {
			h = x
		}
	case 5: // another depot
		if len(g.Depots) > 0 {
			h.Depots = slices.Clone(g.Depots)
			h.Depots[r.Intn(len(h.Depots))] = some.ID
		}
	case 6: // another direction of an edge, or both
		if len(h.Edges) > 0 {
			e := &h.Edges[r.Intn(len(h.Edges))]
			e.From, e.To, e.Directed = e.To, e.From, !e.Directed
		}
	case 7:
		return otherCycles(r, g)
	case 8:
		return notEndless(g)
	default:
		lieInside(r, g, l)
		return l
	}
	return modelOf(h)
}

// P11.3: whatever lie is told in larger graphs is found by some vertex, unless it is only about which of several cycles are told.
func TestLiesAreFound(t *testing.T) {
	r := rand.New(rand.NewSource(5))
	lies, others := 0, 0
	for range 14000 {
		g := randomGraph(r)
		want := labelsOf(t, g)
		l := lie(t, r, g)
		right, same := said(l) == said(want), text(l) == text(want)
		good := allGood(t, g, l)
		if good && !right || same && !good {
			t.Fatalf("%+v: %v, %v", g, l, good)
		}
		if !right {
			lies++
		}
		if good && !same {
			others++
		}
	}
	if lies < 5000 || others < 100 {
		t.Error("too few of some kind:", lies, others)
	}
}

// P11.3: without the label of a vertex, its view is not good.
func TestMissingLabels(t *testing.T) {
	for _, g := range samples()[:200] {
		l := labelsOf(t, g)
		for i, x := range l {
			less := slices.Delete(slices.Clone(l), i, i+1)
			v, e := page.View(g, less, x.ID)
			must(t, e)
			if dist.Good(v) || allGood(t, g, less) {
				t.Fatalf("%+v: %v", g, less)
			}
		}
	}
}

// P11.4: Path is a walk from the depot to the vertex, with its distance as weight, and no walk with this weight has less steps.
func TestPaths(t *testing.T) {
	steps := 0
	for _, g := range slices.Concat(samples(), fewer()) {
		arcs := arcsOf(g.Edges)
		for _, s := range g.Depots {
			least := exactOf(arcs, s)
			for _, v := range g.Vertices {
				state, d, e := dist.Distance(g, s, v.ID)
				must(t, e)
				p, e := dist.Path(g, s, v.ID)
				if (e == api.OK) != (state == 1) {
					t.Fatalf("%d from %d in %+v: %d, %d", v.ID, s, g, state, e)
				}
				if state != 1 {
					continue
				}
				w := walkOver(t, g, s, p)
				steps += len(w)
				if endOf(w, s) != v.ID || weightOf(w) != d || least[len(w)][v.ID] != d {
					t.Fatalf("%d from %d in %+v: %v", v.ID, s, g, p)
				}
				for n := range len(w) {
					if least[n][v.ID] <= d {
						t.Fatalf("%d from %d in %+v: %v, but %d steps are enough", v.ID, s, g, p, n)
					}
				}
			}
		}
	}
	if steps < 3000 {
		t.Error("too few steps:", steps)
	}
}

// P11.4: Cycle is a closed walk of negative weight, that visits no vertex twice, and whose vertices are endless.
func TestCycles(t *testing.T) {
	steps := 0
	for _, g := range slices.Concat(samples(), fewer()) {
		for i, s := range g.Depots {
			b := blocksIn(labelsOf(t, g), i)
			for _, v := range g.Vertices {
				c, e := dist.Cycle(g, s, v.ID)
				if (e == api.OK) != (b[v.ID][0] == 2) {
					t.Fatalf("%d from %d in %+v: %d", v.ID, s, g, e)
				}
				if e != api.OK {
					continue
				}
				w := walkOver(t, g, startOf(led(t, g, b, v.ID, 4), v.ID), c)
				steps += len(w)
				been := map[int]bool{}
				for _, a := range w {
					state, _, e := dist.Distance(g, s, a.from)
					if must(t, e); been[a.from] || state != 2 {
						t.Fatalf("%d from %d in %+v: %v", v.ID, s, g, w)
					}
					been[a.from] = true
				}
				if len(w) == 0 || weightOf(w) >= 0 || w[len(w)-1].to != w[0].from {
					t.Fatalf("%d from %d in %+v: %v", v.ID, s, g, w)
				}
			}
		}
	}
	if steps < 3000 {
		t.Error("too few steps:", steps)
	}
}

// P11.5: a step never leads by less than the distance says.
func TestTriangles(t *testing.T) {
	tried := 0
	for _, g := range slices.Concat(samples(), fewer()) {
		for _, s := range g.Depots {
			for _, a := range arcsOf(g.Edges) {
				before, d, e := dist.Distance(g, s, a.from)
				must(t, e)
				behind, n, e := dist.Distance(g, s, a.to)
				must(t, e)
				if before == 1 && behind == 1 {
					tried++
				}
				if before > behind || before == 1 && behind == 1 && n > d+a.weight {
					t.Fatalf("%v from %d in %+v: %d, %d, and %d, %d", a, s, g, before, d, behind, n)
				}
			}
		}
	}
	if tried < 2000 {
		t.Error("too few steps:", tried)
	}
}

// P11.5: a step that is added between vertices with distances, and whose weight makes nothing nearer, changes no state and no distance; and so one from a vertex that cannot be reached, whatever it weighs.
func TestAddedSteps(t *testing.T) {
	r := rand.New(rand.NewSource(6))
	between, outside := 0, 0
	for range 5000 {
		g := randomGraph(r)
		if len(g.Depots) == 0 {
			continue
		}
		some := func() int { return g.Vertices[r.Intn(len(g.Vertices))].ID }
		s, u, v, w := g.Depots[r.Intn(len(g.Depots))], some(), some(), r.Intn(2001)-1000
		before, d, e := dist.Distance(g, s, u)
		must(t, e)
		behind, n, e := dist.Distance(g, s, v)
		must(t, e)
		if before == 1 {
			w = n - d + r.Intn(3)*r.Intn(3)
		}
		h, e := graph.Apply(g, api.Change{Kind: api.CAddEdge, Edge: to(r.Intn(40), u, v, w)})
		if e != api.OK || before == 2 || before == 1 && behind != 1 {
			continue
		}
		for _, x := range g.Vertices {
			was, far, e := dist.Distance(g, s, x.ID)
			must(t, e)
			if is, n, e := dist.Distance(h, s, x.ID); e != api.OK || is != was || n != far {
				t.Fatalf("%d from %d in %+v, and %d, %d, %d: %d, %d, not %d, %d", x.ID, s, g, u, v, w, is, n, was, far)
			}
		}
		if before == 1 {
			between++
		} else {
			outside++
		}
	}
	if between < 500 || outside < 500 {
		t.Error("too few of some kind:", between, outside)
	}
}

// P11.6: if all weights are multiplied by a positive number, so are all distances, and the sums on cycles; all other numbers stay as they are.
func TestMultiplied(t *testing.T) {
	tried := 0
	for _, g := range slices.Concat(samples(), fewer()) {
		want := labelsOf(t, g)
		for _, k := range []int{2, 3, 7, 1000} {
			h := g
			h.Edges = slices.Clone(g.Edges)
			for i := range h.Edges {
				h.Edges[i].Weight *= k
			}
			if !graph.Valid(h) {
				continue
			}
			tried++
			for i, x := range labelsOf(t, h) {
				for j, n := range x.Label {
					m, state := want[i].Label[j], want[i].Label[j-j%9]
					if state == 1 && j%9 == 3 || state == 2 && j%9 == 7 {
						m *= k
					}
					if n != m {
						t.Fatalf("%+v and %+v: %v, not %v", g, h, x, want[i])
					}
				}
			}
		}
	}
	if tried < 1000 {
		t.Error("too few graphs:", tried)
	}
}

// P11.6: capacities and sides play no part, neither for labels nor for views; nor do the ends of an undirected edge, if they change places.
func TestNoPart(t *testing.T) {
	r := rand.New(rand.NewSource(7))
	for _, g := range slices.Concat(samples(), fewer()) {
		h := api.Graph{Vertices: slices.Clone(g.Vertices), Edges: slices.Clone(g.Edges), Depots: g.Depots}
		for i := range h.Vertices {
			h.Vertices[i].Side = r.Intn(4)
		}
		for i, e := range h.Edges {
			h.Edges[i].Cap = r.Intn(1001)
			if !e.Directed && r.Intn(2) == 0 {
				h.Edges[i].From, h.Edges[i].To = e.To, e.From
			}
		}
		before := labelsOf(t, g)
		if now := labelsOf(t, h); text(now) != text(before) || !allGood(t, h, before) {
			t.Fatalf("%+v and %+v: %v, not %v", g, h, now, before)
		}
		for _, s := range g.Depots[:min(len(g.Depots), 1)] {
			for _, v := range g.Vertices[:min(len(g.Vertices), 4)] {
				p, e := dist.Path(g, s, v.ID)
				c, f := dist.Cycle(g, s, v.ID)
				q, x := dist.Path(h, s, v.ID)
				d, y := dist.Cycle(h, s, v.ID)
				if e != x || f != y || !slices.Equal(p, q) || !slices.Equal(c, d) {
					t.Fatalf("%d from %d in %+v and %+v: %v, %v, and %v, %v", v.ID, s, g, h, p, c, q, d)
				}
			}
		}
	}
}
