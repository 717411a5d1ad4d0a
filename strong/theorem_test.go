package strong_test

import (
	"math/rand"
	"slices"
	"sync"
	"testing"

	"clearway/api"
	"clearway/graph"
	"clearway/page"
	"clearway/strong"
)

// labelsOf returns the labels of g.
func labelsOf(t *testing.T, g api.Graph) []api.Named {
	t.Helper()
	l, e := strong.Labels(g)
	must(t, e)
	return l
}

// byVertex returns the labels l by the numbers of their vertices.
func byVertex(l []api.Named) map[int][]int {
	m := map[int][]int{}
	for _, x := range l {
		m[x.ID] = x.Label
	}
	return m
}

// P9.2: two vertices have the same root exactly if each reaches the other one, by walks of arcs.
func TestSameRoots(t *testing.T) {
	same := 0
	for _, g := range slices.Concat(samples(), small()) {
		l := byVertex(labelsOf(t, g))
		walks := tableOf(g, func(arc) bool { return true })
		for _, v := range g.Vertices {
			for _, w := range g.Vertices {
				there, e := strong.Reaches(g, v.ID, w.ID)
				must(t, e)
				back, e := strong.Reaches(g, w.ID, v.ID)
				must(t, e)
				is := l[v.ID][0] == l[w.ID][0]
				if is != (there && back) || there != (walks[v.ID][w.ID] < far) {
					t.Fatalf("%d and %d in %+v: %v", v.ID, w.ID, g, l)
				}
				if is && v.ID < w.ID {
					same++
				}
			}
		}
	}
	if same < 2500 {
		t.Error("too few in one component:", same)
	}
}

// allGood reports whether the views of all vertices of g with the labels l are good.
func allGood(t *testing.T, g api.Graph, l []api.Named) bool {
	t.Helper()
	good := true
	for _, x := range g.Vertices {
		v, e := page.View(g, l, x.ID)
		must(t, e)
		good = wantView(t, v) && good
	}
	return good
}

// P9.3: the views of all vertices are good with the labels of Labels.
func TestLabelsAreGood(t *testing.T) {
	for _, g := range slices.Concat(samples(), small()) {
		if l := labelsOf(t, g); !allGood(t, g, l) {
			t.Fatalf("%+v: %v", g, l)
		}
	}
}

// trial tries labels of the vertices of a graph.
type trial struct {
	views  []api.View
	labels []api.Named
	want   string
	found  int
}

// trialOf returns a trial of g.
func trialOf(t *testing.T, g api.Graph) *trial {
	r := &trial{labels: labelsOf(t, g)}
	r.want = text(r.labels)
	for _, x := range g.Vertices {
		v, e := page.View(g, r.labels, x.ID)
		must(t, e)
		r.views = append(r.views, v)
	}
	return r
}

// look reports whether no view is good everywhere unless the labels are those of Labels, and counts how often these were found.
func (r *trial) look() bool {
	for _, v := range r.views {
		v.Labels = r.labels
		if !strong.Good(v) {
			return true
		}
	}
	r.found++
	return text(r.labels) == r.want
}

// candidates returns labels for the two vertices of a graph: all that are made of small numbers, and of its edges.
func candidates(g api.Graph) [][]int {
	edges := []int{-1}
	for _, e := range g.Edges {
		edges = append(edges, e.ID)
	}
	choices := [][]int{{g.Vertices[0].ID, g.Vertices[1].ID}, {0, 1, 2}, edges, {0, 1, 2}, edges, {0, 1}, {0, 1}}
	l := [][]int{nil}
	for _, c := range choices {
		var longer [][]int
		for _, x := range l {
			for _, n := range c {
				longer = append(longer, append(slices.Clone(x), n))
			}
		}
		l = longer
	}
	return l
}

// inParallel calls f for all of l.
func inParallel(l []api.Graph, f func(g api.Graph)) {
	var wg sync.WaitGroup
	room := make(chan bool, 8)
	for _, g := range l {
		room <- true
		wg.Go(func() {
			f(g)
			<-room
		})
	}
	wg.Wait()
}

// P9.3: no other labels are good everywhere: all candidates for both vertices of graphs with two are tried together.
func TestOnlyLabelsAreGood(t *testing.T) {
	var l []api.Graph
	for i, g := range small() {
		if len(g.Vertices) == 2 && (g.Vertices[0].ID == 0 || i%5 == 0) {
			l = append(l, g)
		}
	}
	if len(l) < 40 {
		t.Error("too few graphs:", len(l))
	}
	inParallel(l, func(g api.Graph) {
		r := trialOf(t, g)
		all := candidates(g)
		for _, x := range all {
			r.labels[0].Label = x
			for _, y := range all {
				r.labels[1].Label = y
				if !r.look() {
					t.Errorf("%+v: %v", g, r.labels)
					return
				}
			}
		}
		if r.found != 1 {
			t.Errorf("%+v: %d", g, r.found)
		}
	})
}

// claim is what somebody says of a vertex, true or not: the root and the rank.
type claim struct{ root, rank int }

// told returns the labels that are as true as they can be where the claims are what they are: the depths, the edges and the witness distances of the components that would follow from them.
func told(g api.Graph, claims map[int]claim) []api.Named {
	same := func(a arc) bool { return claims[a.from].root == claims[a.to].root }
	inner, arcs := tableOf(g, same), arcsOf(g.Edges)
	var l []api.Named
	for _, v := range g.Vertices {
		c := claims[v.ID]
		out, in, outEdge, inEdge, witness := min(inner[c.root][v.ID], 23), min(inner[v.ID][c.root], 23), -1, -1, 23
		for _, a := range slices.Backward(arcs) {
			if same(a) && a.to == v.ID && inner[c.root][a.from] == out-1 {
				outEdge = a.edge
			}
			if same(a) && a.from == v.ID && inner[a.to][c.root] == in-1 {
				inEdge = a.edge
			}
			if !same(a) && claims[a.to].root == c.root && claims[a.from].rank == c.rank-1 {
				witness = min(witness, inner[a.to][v.ID])
			}
		}
		if c.rank == 0 {
			witness = 0
		}
		l = append(l, api.Named{ID: v.ID, Label: []int{c.root, out, outEdge, in, inEdge, c.rank, witness}})
	}
	return l
}

// claimsOf returns the claims in the labels l.
func claimsOf(l []api.Named) map[int]claim {
	m := map[int]claim{}
	for _, x := range l {
		m[x.ID] = claim{x.Label[0], x.Label[5]}
	}
	return m
}

// lists returns all lists of n of the numbers l.
func lists(l []int, n int) [][]int {
	all := [][]int{nil}
	for range n {
		var longer [][]int
		for _, x := range all {
			for _, k := range l {
				longer = append(longer, append(slices.Clone(x), k))
			}
		}
		all = longer
	}
	return all
}

// P9.3: whatever roots, ranks and witness distances are claimed for the three vertices of a graph, with depths and edges that fit as well as they can.
func TestClaimsOfThree(t *testing.T) {
	var l []api.Graph
	for _, g := range small() {
		if len(g.Vertices) == 3 {
			l = append(l, g)
		}
	}
	numbers := lists([]int{0, 1, 2}, 3)
	inParallel(l, func(g api.Graph) {
		r := trialOf(t, g)
		for _, roots := range numbers {
			claims := map[int]claim{}
			for i, v := range g.Vertices {
				claims[v.ID] = claim{root: g.Vertices[roots[i]].ID}
			}
			r.labels = told(g, claims)
			for _, ranks := range numbers {
				for _, far := range numbers {
					for i, x := range r.labels {
						x.Label[5], x.Label[6] = ranks[i], far[i]
					}
					if !r.look() {
						t.Errorf("%+v: %v", g, r.labels)
						return
					}
				}
			}
		}
		if r.found != 1 {
			t.Errorf("%+v: %d", g, r.found)
		}
	})
}

// lie changes the labels l of g, as somebody would who wants to be believed, or not, with respect to the component of some vertex; now and then it changes nothing.
func lie(r *rand.Rand, g api.Graph, l []api.Named) []api.Named {
	some, other := l[r.Intn(len(l))], l[r.Intn(len(l))]
	claims, at, by := claimsOf(l), some.Label[0], 2*r.Intn(2)-1
	switch r.Intn(9) {
	case 0: // one number of one label
		some.Label[r.Intn(7)] += r.Intn(7) - 3
		return l
	case 1: // one number of all labels of a component
		k := []int{1, 3, 5, 6}[r.Intn(4)]
		for _, x := range l {
			if x.Label[0] == at && x.ID != at {
				x.Label[k] += by
			}
		}
		return l
	case 2: // the label of another vertex
		copy(some.Label, other.Label)
		return l
	case 3: // another root
		for id, c := range claims {
			if c.root == at {
				claims[id] = claim{some.ID, c.rank}
			}
		}
	case 4: // two components are one
		for id, c := range claims {
			if c.root == at || c.root == other.Label[0] {
				claims[id] = claim{min(at, other.Label[0]), claims[other.ID].rank}
			}
		}
	case 5: // one component is two: some of its vertices, and the others
		for id, c := range claims {
			if c.root == at && id >= some.ID && r.Intn(4) > 0 {
				claims[id] = claim{some.ID, c.rank + r.Intn(2)}
			}
		}
	case 6: // another rank
		for id, c := range claims {
			if c.root == at {
				claims[id] = claim{c.root, max(c.rank+by, 0)}
			}
		}
	case 7: // other ranks for all that are at least as great
		for id, c := range claims {
			if c.rank >= some.Label[5] {
				claims[id] = claim{c.root, max(c.rank+by, 0)}
			}
		}
	case 8: // the rank of another component
		claims[some.ID] = claim{at, other.Label[5]}
	}
	return told(g, claims)
}

// P9.3: whatever lie is told in larger graphs is found by some vertex.
func TestLiesAreFound(t *testing.T) {
	r := rand.New(rand.NewSource(5))
	lies := 0
	for range 12000 {
		g := randomGraph(r)
		want := text(labelsOf(t, g))
		l := lie(r, g, labelsOf(t, g))
		right := text(l) == want
		if !right {
			lies++
		}
		if allGood(t, g, l) != right {
			t.Fatalf("%+v: %v, %v", g, l, right)
		}
	}
	if lies < 6000 {
		t.Error("too few lies:", lies)
	}
}

// P9.3: without the label of a vertex, its view is not good.
func TestMissingLabels(t *testing.T) {
	for _, g := range samples()[:300] {
		l := labelsOf(t, g)
		for i, x := range l {
			less := slices.Delete(slices.Clone(l), i, i+1)
			v, e := page.View(g, less, x.ID)
			must(t, e)
			if strong.Good(v) || allGood(t, g, less) {
				t.Fatalf("%+v: %v", g, less)
			}
		}
	}
}

// P9.4: arcs between components lead to greater ranks, and to later ones of Components; and a rank is the greatest number of such arcs on a walk.
func TestTopologicalOrder(t *testing.T) {
	between := 0
	for _, g := range slices.Concat(samples(), small()) {
		l := byVertex(labelsOf(t, g))
		c, e := strong.Components(g)
		must(t, e)
		position := map[int]int{}
		for i, x := range c {
			for _, id := range x {
				position[id] = i
			}
		}
		most := map[int]int{}
		for range 24 { // walks with one arc more each time
			for _, a := range arcsOf(g.Edges) {
				n := most[a.from]
				if l[a.from][0] != l[a.to][0] {
					n++
				}
				most[a.to] = max(most[a.to], n)
			}
		}
		for _, a := range arcsOf(g.Edges) {
			if l[a.from][0] == l[a.to][0] {
				continue
			}
			between++
			if l[a.from][5] >= l[a.to][5] || position[a.from] >= position[a.to] {
				t.Fatalf("%v in %+v: %v, %v", a, g, l, c)
			}
		}
		for _, v := range g.Vertices {
			if l[v.ID][5] != most[v.ID] {
				t.Fatalf("%d in %+v: %v, %v", v.ID, g, l, most)
			}
		}
	}
	if between < 1200 {
		t.Error("too few arcs between components:", between)
	}
}

// step returns the vertex to which the edge with the number id leads from the vertex at, or, if back is true, from which it leads there.
func step(t *testing.T, g api.Graph, id, at int, back bool) int {
	t.Helper()
	for _, a := range arcsOf(g.Edges) {
		if a.edge == id && !back && a.from == at {
			return a.to
		}
		if a.edge == id && back && a.to == at {
			return a.from
		}
	}
	t.Fatalf("the edge %d has no such arc at %d in %+v", id, at, g)
	return 0
}

// P9.5: the out edges lead back to the root, and the in edges on to it, in as many steps as the depths say.
func TestEdgesLeadToTheRoot(t *testing.T) {
	steps := 0
	for _, g := range slices.Concat(samples(), small()) {
		l := byVertex(labelsOf(t, g))
		for _, v := range g.Vertices {
			for _, back := range []bool{true, false} {
				k, at, n := 3, v.ID, 0
				if back {
					k = 1
				}
				for ; at != l[v.ID][0]; n++ {
					if l[at][0] != l[v.ID][0] || n > 23 {
						t.Fatalf("%d in %+v: %v", v.ID, g, l)
					}
					at = step(t, g, l[at][k+1], at, back)
					steps++
				}
				if n != l[v.ID][k] || l[at][k+1] != -1 {
					t.Fatalf("%d in %+v: %d, %v", v.ID, g, n, l)
				}
			}
		}
	}
	if steps < 4000 {
		t.Error("too few steps:", steps)
	}
}

// P9.6: Count counts the components.
func TestCountsOfComponents(t *testing.T) {
	for _, g := range slices.Concat(samples(), small()) {
		l := labelsOf(t, g)
		c, e := strong.Components(g)
		must(t, e)
		roots, sum := map[int]bool{}, 0
		for _, x := range l {
			v, e := page.View(g, l, x.ID)
			must(t, e)
			sum += strong.Count(v)
			roots[x.Label[0]] = true
		}
		if sum != len(c) || len(roots) != sum || len(modelOf(g).components()) != sum {
			t.Fatalf("%+v: %v, %d of %d", g, l, sum, len(c))
		}
	}
}

// sets returns the components of g in the order of their least vertices.
func sets(t *testing.T, g api.Graph) [][]int {
	t.Helper()
	c, e := strong.Components(g)
	must(t, e)
	slices.SortFunc(c, func(a, b []int) int { return a[0] - b[0] })
	return c
}

// P9.7: a further edge separates no vertices.
func TestFurtherEdge(t *testing.T) {
	r := rand.New(rand.NewSource(7))
	joined := 0
	for range 4000 {
		g := randomGraph(r)
		some := func() int { return g.Vertices[r.Intn(len(g.Vertices))].ID }
		e := api.Edge{ID: r.Intn(40), From: some(), To: some(), Directed: r.Intn(3) > 0}
		h, errno := graph.Apply(g, api.Change{Kind: api.CAddEdge, Edge: e})
		if errno != api.OK {
			continue
		}
		before, after := byVertex(labelsOf(t, g)), byVertex(labelsOf(t, h))
		for _, v := range g.Vertices {
			for _, w := range g.Vertices {
				was, is := before[v.ID][0] == before[w.ID][0], after[v.ID][0] == after[w.ID][0]
				if was && !is {
					t.Fatalf("%d and %d in %+v and %+v", v.ID, w.ID, g, h)
				}
				if is && !was {
					joined++
				}
			}
		}
	}
	if joined < 2000 {
		t.Error("too few are joined:", joined)
	}
}

// P9.7: if all directed edges are turned around, the components stay, and the depths out and in, with their edges, change places.
func TestTurnedAround(t *testing.T) {
	for _, g := range slices.Concat(samples(), small()) {
		h := g
		h.Edges = slices.Clone(g.Edges)
		for i, e := range h.Edges {
			if e.Directed {
				h.Edges[i].From, h.Edges[i].To = e.To, e.From
			}
		}
		if text(sets(t, g)) != text(sets(t, h)) {
			t.Fatalf("%+v and %+v: %v, %v", g, h, sets(t, g), sets(t, h))
		}
		before, after := byVertex(labelsOf(t, g)), byVertex(labelsOf(t, h))
		for id, x := range before {
			if y := after[id]; !slices.Equal(x[1:3], y[3:5]) || !slices.Equal(x[3:5], y[1:3]) {
				t.Fatalf("%d in %+v and %+v: %v, %v", id, g, h, x, y)
			}
		}
	}
}

// P9.7: contracting two vertices of a component into one reduces it by this vertex, and leaves all others as they are.
func TestContraction(t *testing.T) {
	contracted := 0
	for _, g := range slices.Concat(samples()[:300], small()) {
		want := sets(t, g)
		for _, c := range want {
			for _, id := range c {
				for _, n := range c {
					h, e := graph.Apply(g, api.Change{Kind: api.CContract, ID: id, N: n})
					if e != api.OK { // id and n are equal, or id is a depot
						continue
					}
					contracted++
					less := slices.Clone(want)
					for i, d := range less {
						less[i] = slices.DeleteFunc(slices.Clone(d), func(x int) bool { return x == id })
					}
					slices.SortFunc(less, func(a, b []int) int { return a[0] - b[0] })
					if l := sets(t, h); text(l) != text(less) {
						t.Fatalf("%d into %d in %+v: %v, %v", id, n, g, want, l)
					}
				}
			}
		}
	}
	if contracted < 2000 {
		t.Error("too few are contracted:", contracted)
	}
}
