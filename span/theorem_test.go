package span_test

import (
	"math/bits"
	"math/rand"
	"slices"
	"sync"
	"testing"

	"clearway/api"
	"clearway/graph"
	"clearway/page"
	"clearway/span"
)

// labelsOf returns the labels of g.
func labelsOf(t *testing.T, g api.Graph) []api.Named {
	t.Helper()
	l, e := span.Labels(g)
	must(t, e)
	return l
}

// treeOf returns the edges of the forest of g.
func treeOf(t *testing.T, g api.Graph) []api.Edge {
	t.Helper()
	ids, e := span.Tree(g)
	must(t, e)
	if !slices.IsSorted(ids) || len(slices.Compact(slices.Clone(ids))) != len(ids) {
		t.Fatalf("%+v: %v", g, ids)
	}
	l := those(g.Edges, func(e api.Edge) bool { return slices.Contains(ids, e.ID) })
	if len(l) != len(ids) {
		t.Fatalf("%+v: %v", g, ids)
	}
	return l
}

// componentsOf returns how many components the edges l leave of the vertices of g.
func componentsOf(g api.Graph, l []api.Edge) int {
	m := tableOf(l)
	n := 0
	for _, v := range g.Vertices {
		if !slices.ContainsFunc(g.Vertices, func(w api.Vertex) bool { return w.ID < v.ID && m[v.ID][w.ID] < far }) {
			n++
		}
	}
	return n
}

// sumOf returns the sum of the weights of l.
func sumOf(l []api.Edge) int {
	n := 0
	for _, e := range l {
		n += e.Weight
	}
	return n
}

// P10.2: the forest connects what the graph connects, and has no cycle: without any of its edges, it would connect less.
func TestForest(t *testing.T) {
	edges := 0
	for _, g := range slices.Concat(samples(), small()) {
		l := treeOf(t, g)
		a, b := tableOf(g.Edges), tableOf(l)
		for i, row := range a {
			for k, n := range row {
				if (n < far) != (b[i][k] < far) {
					t.Fatalf("%d and %d in %+v: %v", i, k, g, l)
				}
			}
		}
		if len(l) != len(g.Vertices)-componentsOf(g, l) {
			t.Fatalf("%+v: %v", g, l)
		}
		for _, e := range l {
			if tableOf(those(l, func(x api.Edge) bool { return x != e }))[e.From][e.To] < far {
				t.Fatalf("%+v: %v has a cycle with %v", g, l, e)
			}
		}
		edges += len(l)
	}
	if edges < 1500 {
		t.Error("too few edges:", edges)
	}
}

// P10.2: of all sets of edges that connect what the graph connects, and have no cycle, none has a lesser sum.
func TestNoLesserForest(t *testing.T) {
	tried, others := 0, 0
	for _, g := range slices.Concat(samples(), small()) {
		if len(g.Edges) > 9 {
			continue
		}
		tried++
		l := treeOf(t, g)
		components, sum := componentsOf(g, g.Edges), sumOf(l)
		for set := range uint(1) << len(g.Edges) {
			if bits.OnesCount(set) != len(l) {
				continue
			}
			var some []api.Edge
			for i, e := range g.Edges {
				if set>>i&1 == 1 {
					some = append(some, e)
				}
			}
			if componentsOf(g, some) != components { // or it has a cycle, as it has as many edges as the forest
				continue
			}
			others++
			if sumOf(some) < sum {
				t.Fatalf("%+v: %v, not %v", g, some, l)
			}
		}
	}
	if tried < 300 || others < 800 {
		t.Error("too few graphs, or forests:", tried, others)
	}
}

// P10.2: every edge that is not in the forest is greater than all edges on the path between its ends.
func TestEdgesOutside(t *testing.T) {
	outside := 0
	for _, g := range slices.Concat(samples(), small()) {
		l := treeOf(t, g)
		m := tableOf(l)
		for _, e := range g.Edges {
			if slices.Contains(l, e) {
				continue
			}
			for _, x := range l {
				on := min(m[e.From][x.From]+m[x.To][e.To], m[e.From][x.To]+m[x.From][e.To])+1 == m[e.From][e.To]
				if on && (!span.Less(x, e) || span.Less(e, x)) {
					t.Fatalf("%v and %v in %+v: %v", e, x, g, l)
				}
				if on {
					outside++
				}
			}
		}
	}
	if outside < 2000 {
		t.Error("too few edges on paths between ends:", outside)
	}
}

// allGood reports whether the views of all vertices of g with the labels l are good.
func allGood(t *testing.T, g api.Graph, l []api.Named) bool {
	t.Helper()
	good := true
	for _, x := range g.Vertices {
		good = wantView(t, viewOf(g, l, x.ID)) && good
	}
	return good
}

// P10.3: the views of all vertices are good with the labels of Labels.
func TestLabelsAreGood(t *testing.T) {
	for _, g := range slices.Concat(samples(), small()) {
		l := labelsOf(t, g)
		for _, x := range g.Vertices {
			v, e := page.View(g, l, x.ID)
			if must(t, e); !wantView(t, v) {
				t.Fatalf("%+v: %v", g, l)
			}
		}
	}
}

// trial tries labels of the vertices of a graph.
type trial struct {
	views  []api.View
	labels []api.Named
	want   string
	found  int
}

// trialOf returns a trial of g.
func trialOf(t *testing.T, g api.Graph) *trial {
	r := &trial{labels: labelsOf(t, g)}
	r.want = text(r.labels)
	for _, x := range g.Vertices {
		r.views = append(r.views, viewOf(g, r.labels, x.ID))
	}
	return r
}

// look reports whether no view is good everywhere unless the labels are those of Labels, and counts how often these were found.
func (r *trial) look() bool {
	for _, v := range r.views {
		v.Labels = r.labels
		if !span.Good(v) {
			return true
		}
	}
	r.found++
	return text(r.labels) == r.want
}

// tryBlocks tries all of the blocks l, and one after the other, in the round i of all labels from that with the index k on. It reports whether look did.
func (r *trial) tryBlocks(l [][]int, i, k int) bool {
	if k == len(r.labels) {
		return r.look()
	}
	here := r.labels[k].Label[5*i : 5*i+5]
	right := slices.Clone(here)
	defer copy(here, right)
	for _, b := range l {
		copy(here, b)
		if !r.tryBlocks(l, i, k+1) {
			return false
		}
	}
	return true
}

// blocksFor returns the blocks that are made of the vertices, the edges, small depths, and the weights of g, where a vertex says the number and the weight of an edge, or nothing; or, if free is true, any number with any weight.
func blocksFor(g api.Graph, free bool) [][]int {
	var roots, depths []int
	for i, v := range g.Vertices {
		roots, depths = append(roots, v.ID), append(depths, i)
	}
	edges, choices := []int{-1}, [][2]int{{-1, 0}}
	for _, e := range g.Edges {
		edges, choices = append(edges, e.ID), append(choices, [2]int{e.ID, e.Weight})
	}
	if free {
		for _, e := range g.Edges {
			choices = append(choices, [2]int{-1, e.Weight}, [2]int{e.ID, 0})
			for _, x := range g.Edges {
				if x != e {
					choices = append(choices, [2]int{e.ID, x.Weight})
				}
			}
		}
	}
	slices.SortFunc(choices, func(a, b [2]int) int { return slices.Compare(a[:], b[:]) })
	choices = slices.Compact(choices)
	var l [][]int
	for _, r := range roots {
		for _, d := range depths {
			for _, e := range edges {
				for _, c := range choices {
					l = append(l, []int{r, d, e, c[0], c[1]})
				}
			}
		}
	}
	return l
}

// inParallel calls f for all of l.
func inParallel(l []api.Graph, f func(g api.Graph)) {
	var wg sync.WaitGroup
	room := make(chan bool, 8)
	for _, g := range l {
		room <- true
		wg.Go(func() {
			f(g)
			<-room
		})
	}
	wg.Wait()
}

// pairs returns graphs of two vertices with one edge, some of them with a loop.
func pairs() []api.Graph {
	return []api.Graph{
		graphOf([]int{0, 1}, edge(0, 0, 1, 5)),
		graphOf([]int{3, 23}, edge(39, 23, 3, -1000)),
		graphOf([]int{0, 9}, edge(0, 0, 9, 0)),
		graphOf([]int{0, 1}),
	}
}

// P10.3: no other labels are good everywhere: all blocks that are made of the numbers of a graph with two vertices and one edge are tried in all labels, over one round and over two.
func TestOnlyLabelsAreGood(t *testing.T) {
	inParallel(pairs(), func(g api.Graph) {
		r := trialOf(t, g)
		all := blocksFor(g, true)
		for _, n := range []int{1, 2} {
			for i := range r.labels {
				r.labels[i].Label = make([]int, 5*n)
			}
			tried := true
			if n == 1 {
				tried = r.tryBlocks(all, 0, 0)
			} else {
				for _, a := range all {
					for _, b := range all {
						copy(r.labels[0].Label, a)
						copy(r.labels[1].Label, b)
						tried = tried && r.tryBlocks(all, 1, 0)
					}
				}
			}
			if !tried {
				t.Errorf("%+v: %v", g, r.labels)
			}
		}
		if r.found != 1 {
			t.Errorf("%+v: %d", g, r.found)
		}
	})
}

// P10.3: all blocks that are made of the numbers of a connected graph with three vertices are tried together in each round, and those of two vertices with two edges with any weights.
func TestBlocksTogether(t *testing.T) {
	a, b := []int{0, 1, 2}, []int{2, 9, 23}
	l := []api.Graph{
		graphOf(a, edge(0, 0, 1, 1), edge(1, 1, 2, 2)),
		graphOf(a, edge(0, 1, 2, 1), edge(1, 0, 1, 1)),
		graphOf(b, edge(7, 2, 9, 0), edge(9, 2, 23, 0)),
		graphOf(b, edge(7, 23, 9, 5), edge(9, 23, 2, -5)),
		graphOf(a, edge(0, 0, 0, -1), edge(8, 0, 2, 5), edge(9, 1, 0, 5)),
		graphOf(a, edge(5, 0, 1, 3), edge(6, 1, 2, 1), edge(7, 2, 0, 1)),
		graphOf(b, edge(5, 2, 9, -1), edge(6, 9, 2, -1), edge(7, 23, 9, 1)),
		graphOf([]int{0, 1}, edge(2, 0, 1, 3), edge(3, 1, 0, 1)),
		graphOf([]int{3, 23}, edge(2, 23, 3, 3), edge(3, 23, 3, 3)),
		graphOf([]int{0, 1}, edge(2, 0, 1, 3), edge(3, 1, 1, 1)),
	}
	inParallel(l, func(g api.Graph) {
		r := trialOf(t, g)
		for i := range len(r.labels[0].Label) / 5 {
			r.found = 0
			if !r.tryBlocks(blocksFor(g, len(g.Vertices) == 2), i, 0) || r.found != 1 {
				t.Errorf("%+v: %v, %d", g, r.labels, r.found)
			}
		}
	})
}

// hung returns the label of the vertex id with a last block that says that the tree hangs from the vertex root.
func hung(g api.Graph, label []int, id, root int) []int {
	l := forestOf(g)
	m := tableOf(l)
	label = slices.Clone(label)
	b := label[len(label)-5:]
	b[0], b[1], b[2] = root, m[root][id], -1
	for _, x := range l {
		if x.From == id && m[root][x.To] == b[1]-1 || x.To == id && m[root][x.From] == b[1]-1 {
			b[2] = x.ID
		}
	}
	return label
}

// lieInside changes the labels l of the vertices of one component, as somebody would who wants to be believed, or not.
func lieInside(r *rand.Rand, g api.Graph, l []api.Named) {
	some, m := l[r.Intn(len(l))], tableOf(g.Edges)
	n := len(some.Label) / 5
	kind, i, k, by := r.Intn(6), r.Intn(n), r.Intn(5), r.Intn(5)-2
	for j, x := range l {
		if m[some.ID][x.ID] == far {
			continue
		}
		b := slices.Clone(x.Label[5*i : 5*i+5])
		switch {
		case kind == 0: // one number of all of them is another one
			x.Label[5*i+k] += by
		case kind == 1: // one number of a fragment is another one
			if slices.Equal(b[3:], some.Label[5*i+3:5*i+5]) {
				x.Label[5*i+k] += by
			}
		case kind == 2: // a round is played twice
			l[j].Label = slices.Insert(slices.Clone(x.Label), 5*i, b...)
		case kind == 3 && n > 1: // or left out
			l[j].Label = slices.Delete(slices.Clone(x.Label), 5*i, 5*i+5)
		case kind == 4: // the tree hangs from another vertex
			l[j].Label = hung(g, x.Label, x.ID, some.ID)
		case kind == 5 && n > 1: // something else is chosen by all
			x.Label[5*i+3] = some.Label[3]
			x.Label[5*i+4] = some.Label[4]
		}
	}
}

// lie returns other labels than the labels l of g, as if some of it were different; now and then the same ones.
func lie(r *rand.Rand, g api.Graph, l []api.Named) []api.Named {
	h := g
	h.Edges = slices.Clone(g.Edges)
	some, other := l[r.Intn(len(l))], l[r.Intn(len(l))]
	switch r.Intn(9) {
	case 0: // one number of one label
		some.Label[r.Intn(len(some.Label))] += r.Intn(7) - 3
		return l
	case 1: // the label of another vertex
		copy(some.Label, other.Label)
		return l
	case 2: // another order of the edges
		rank := r.Perm(40)
		return labelsIn(g, growthOf(g, func(a, b api.Edge) bool { return rank[a.ID] < rank[b.ID] }).labels)
	case 3: // another weight, or two
		for range 1 + r.Intn(2) {
			if len(h.Edges) > 0 {
				h.Edges[r.Intn(len(h.Edges))].Weight = r.Intn(7) - 3
			}
		}
	case 4: // without an edge
		if i := r.Intn(len(h.Edges) + 1); i < len(h.Edges) {
			h.Edges = slices.Delete(h.Edges, i, i+1)
		}
	case 5: // without all edges between some vertices and others
		side := r.Perm(24)
		h.Edges = those(h.Edges, func(e api.Edge) bool { return (side[e.From] < 12) == (side[e.To] < 12) })
	case 6: // with a further edge
		if x, e := graph.Apply(g, api.Change{Kind: api.CAddEdge, Edge: edge(r.Intn(40), some.ID, other.ID, r.Intn(7)-3)}); e == api.OK {
			h = x
		}
	default:
		lieInside(r, g, l)
		return l
	}
	return modelOf(h)
}

// P10.3: whatever lie is told in larger graphs is found by some vertex.
func TestLiesAreFound(t *testing.T) {
	r := rand.New(rand.NewSource(5))
	lies := 0
	for range 12000 {
		g := randomGraph(r)
		want := text(labelsOf(t, g))
		l := lie(r, g, labelsOf(t, g))
		right := text(l) == want
		if !right {
			lies++
		}
		if allGood(t, g, l) != right {
			t.Fatalf("%+v: %v, %v", g, l, right)
		}
	}
	if lies < 6000 {
		t.Error("too few lies:", lies)
	}
}

// P10.3: without the label of a vertex, its view is not good.
func TestMissingLabels(t *testing.T) {
	for _, g := range samples()[:200] {
		l := labelsOf(t, g)
		for i, x := range l {
			less := slices.Delete(slices.Clone(l), i, i+1)
			v, e := page.View(g, less, x.ID)
			must(t, e)
			if span.Good(v) || allGood(t, g, less) {
				t.Fatalf("%+v: %v", g, less)
			}
		}
	}
}

// P10.4: the sum of Count is that of the weights of the forest.
func TestCountsOfForests(t *testing.T) {
	for _, g := range slices.Concat(samples(), small()) {
		l, sum := labelsOf(t, g), 0
		for _, x := range l {
			v, e := page.View(g, l, x.ID)
			must(t, e)
			sum += span.Count(v)
		}
		if sum != sumOf(treeOf(t, g)) || sum != sumOf(forestOf(g)) {
			t.Fatalf("%+v: %d", g, sum)
		}
	}
}

// wantWalks fails the test if some walk in g over at most so many further edges, from the vertex at to the vertex to, has no edge that is not less than e, where all edges so far are less.
func wantWalks(t *testing.T, g api.Graph, e api.Edge, at, to, further int) {
	if at == to {
		t.Fatalf("%+v: a walk to %d over edges that are less than %v", g, to, e)
	}
	if further == 0 {
		return
	}
	for _, x := range graph.At(g, at) {
		if span.Less(x, e) {
			wantWalks(t, g, e, graph.Other(x, at), to, further-1)
		}
	}
}

// P10.5: on every walk, there is an edge that is not less than Heaviest; also on that in the forest, where this is one of the edges itself.
func TestBottlenecks(t *testing.T) {
	tried := 0
	for _, g := range slices.Concat(samples()[:200], small()) {
		byID := map[int]api.Edge{}
		for _, e := range g.Edges {
			byID[e.ID] = e
		}
		tree := treeOf(t, g)
		for _, a := range g.Vertices {
			for _, b := range g.Vertices {
				id, errno := span.Heaviest(g, a.ID, b.ID)
				if errno != api.OK || a == b {
					continue
				}
				tried++
				e := byID[id]
				wantWalks(t, g, e, a.ID, b.ID, 4)
				less := func(x api.Edge) bool { return span.Less(x, e) }
				m := tableOf(those(tree, func(x api.Edge) bool { return x != e }))
				if tableOf(those(g.Edges, less))[a.ID][b.ID] < far || m[a.ID][b.ID] < far || !slices.Contains(tree, e) {
					t.Fatalf("%d and %d in %+v: %v", a.ID, b.ID, g, e)
				}
			}
		}
	}
	if tried < 5000 {
		t.Error("too few pairs:", tried)
	}
}

// after returns g after c.
func after(t *testing.T, g api.Graph, c api.Change) api.Graph {
	t.Helper()
	h, e := graph.Apply(g, c)
	must(t, e)
	return h
}

// P10.6: if an edge of the forest is removed, the least one that joins its parts takes its place; if another edge is, the forest stays.
func TestRemovedEdge(t *testing.T) {
	stays, replaced, parted := 0, 0, 0
	for _, g := range slices.Concat(samples()[:200], small()) {
		tree := treeOf(t, g)
		for _, e := range g.Edges {
			h := after(t, g, api.Change{Kind: api.CDropEdge, ID: e.ID})
			want := those(tree, func(x api.Edge) bool { return x != e })
			if len(want) == len(tree) {
				stays++
			} else {
				m := tableOf(want)
				x, found := leastOut(h, lesser, func(id int) bool { return m[e.From][id] < far })
				if found {
					want = append(want, x)
					replaced++
				} else {
					parted++
				}
			}
			slices.SortFunc(want, func(a, b api.Edge) int { return a.ID - b.ID })
			if l := treeOf(t, h); !slices.Equal(l, want) {
				t.Fatalf("%+v without %v: %v, not %v", g, e, l, want)
			}
		}
	}
	if stays < 400 || replaced < 200 || parted < 400 {
		t.Error("too few of some kind:", stays, replaced, parted)
	}
}

// P10.6: if an edge is added within a component, it takes the place of Heaviest of its ends if it is less, and otherwise the forest stays; between two components, it is added to the forest.
func TestAddedEdge(t *testing.T) {
	r := rand.New(rand.NewSource(6))
	stays, replaced, joined := 0, 0, 0
	for range 6000 {
		g := randomGraph(r)
		some := func() int { return g.Vertices[r.Intn(len(g.Vertices))].ID }
		e := edge(r.Intn(40), some(), some(), r.Intn([]int{3, 2001}[r.Intn(2)])-1)
		e.Weight = min(e.Weight, 1000)
		if slices.ContainsFunc(g.Edges, func(x api.Edge) bool { return x.ID == e.ID }) {
			continue
		}
		want := treeOf(t, g)
		id, errno := span.Heaviest(g, e.From, e.To)
		i := slices.IndexFunc(want, func(x api.Edge) bool { return x.ID == id })
		switch {
		case errno != api.OK:
			want = append(want, e)
			joined++
		case e.From != e.To && span.Less(e, want[i]):
			want[i] = e
			replaced++
		default:
			stays++
		}
		slices.SortFunc(want, func(a, b api.Edge) int { return a.ID - b.ID })
		if l := treeOf(t, after(t, g, api.Change{Kind: api.CAddEdge, Edge: e})); !slices.Equal(l, want) {
			t.Fatalf("%+v with %v: %v, not %v", g, e, l, want)
		}
	}
	if stays < 800 || replaced < 300 || joined < 800 {
		t.Error("too few of some kind:", stays, replaced, joined)
	}
}

// weighed returns g with other weights.
func weighed(g api.Graph, f func(e api.Edge) int) api.Graph {
	h := g
	h.Edges = slices.Clone(g.Edges)
	for i, e := range g.Edges {
		h.Edges[i].Weight = f(e)
	}
	return h
}

// P10.7: only the order of the edges counts.
func TestOrderAlone(t *testing.T) {
	for _, g := range slices.Concat(samples(), small()) {
		most, least := -1000, 1000
		for _, e := range g.Edges {
			most, least = max(most, e.Weight), min(least, e.Weight)
		}
		want := idsOf(treeOf(t, g))
		for _, h := range []api.Graph{
			weighed(g, func(e api.Edge) int { return e.Weight + 1000 - most }),
			weighed(g, func(e api.Edge) int { return e.Weight - 1000 - least }),
			weighed(g, func(e api.Edge) int { return len(those(g.Edges, func(x api.Edge) bool { return lesser(x, e) })) }),
		} {
			if l := idsOf(treeOf(t, h)); !slices.Equal(l, want) {
				t.Fatalf("%+v and %+v: %v, not %v", g, h, l, want)
			}
			before, now := labelsOf(t, g), labelsOf(t, h)
			for i, x := range before {
				for k, n := range x.Label {
					if k%5 != 4 && now[i].Label[k] != n {
						t.Fatalf("%+v and %+v: %v, not %v", g, h, now, before)
					}
				}
			}
		}
	}
}

// P10.7: sides, capacities, directions and depots play no part.
func TestNoPart(t *testing.T) {
	r := rand.New(rand.NewSource(7))
	for _, g := range slices.Concat(samples(), small()) {
		h := api.Graph{Vertices: slices.Clone(g.Vertices), Edges: slices.Clone(g.Edges)}
		for i := range h.Vertices {
			h.Vertices[i].Side = r.Intn(4)
		}
		for i, e := range h.Edges {
			h.Edges[i].Cap, h.Edges[i].Directed = r.Intn(1001), r.Intn(2) == 0
			if r.Intn(2) == 0 {
				h.Edges[i].From, h.Edges[i].To = e.To, e.From
			}
		}
		for _, v := range h.Vertices {
			if len(h.Depots) < 3 && r.Intn(2) == 0 {
				h.Depots = append(h.Depots, v.ID)
			}
		}
		before, now := labelsOf(t, g), labelsOf(t, h)
		if text(now) != text(before) || !slices.Equal(idsOf(treeOf(t, h)), idsOf(treeOf(t, g))) {
			t.Fatalf("%+v and %+v: %v, not %v", g, h, now, before)
		}
		for i, v := range g.Vertices {
			w := g.Vertices[r.Intn(len(g.Vertices))]
			id, e := span.Heaviest(g, v.ID, w.ID)
			if n, f := span.Heaviest(h, v.ID, w.ID); n != id || f != e {
				t.Fatalf("%d in %+v and %+v: %d, not %d", i, g, h, n, id)
			}
		}
	}
}
