package blossom_test

import (
	"math"
	"slices"
	"testing"

	"clearway/api"
	"clearway/blossom"
	"clearway/graph"
)

// wantMatching fails the test if the best matching of g has other edges.
func wantMatching(t *testing.T, g api.Graph, want ...int) {
	t.Helper()
	if l, e := blossom.Matching(g); e != api.OK || !slices.Equal(l, want) {
		t.Errorf("Matching(%+v) = %v, %d; want %v", g, l, e, want)
	}
}

// wantDuals fails the test if the dual solution of g is another one: the duals of all vertices, and the odd sets.
func wantDuals(t *testing.T, g api.Graph, duals []int, odds ...api.Odd) {
	t.Helper()
	if d, e := blossom.Duals(g); e != api.OK || text(d) != text(api.Dual{Duals: duals, Odds: odds}) {
		t.Errorf("Duals(%+v) = %v, %d; want %v, %v", g, d, e, duals, odds)
	}
}

// wantLabels fails the test if the labels of g are others than those that are given for each vertex, in order.
func wantLabels(t *testing.T, g api.Graph, want ...[]int) {
	t.Helper()
	l, e := blossom.Labels(g)
	if e != api.OK || len(l) != len(g.Vertices) || len(l) != len(want) {
		t.Fatalf("Labels(%+v) = %v, %d", g, l, e)
	}
	for i, x := range l {
		if x.ID != g.Vertices[i].ID || !slices.Equal(x.Label, want[i]) {
			t.Errorf("Labels(%+v) of %d = %v; want %v", g, x.ID, x.Label, want[i])
		}
	}
}

// wantNothing fails the test if one of the calls returns something but an error.
func wantNothing(t *testing.T, g api.Graph) {
	t.Helper()
	l, e := blossom.Labels(g)
	m, f := blossom.Matching(g)
	d, h := blossom.Duals(g)
	if len(l) != 0 || len(m) != 0 || len(d.Duals) != 0 || len(d.Odds) != 0 || e != api.ErrBlossom || f != api.ErrBlossom || h != api.ErrBlossom {
		t.Fatalf("%+v: %v, %d, %v, %d, %v, %d", g, l, e, m, f, d, h)
	}
}

// The examples of the chapter. The edge 0 is tight at first, then 1 and 2; the set of all three ends enters, until the edge 3 is tight, too.
func TestExamples(t *testing.T) {
	g := example()
	if n := blossom.Price(g.Edges[3]); n != p+1<<36 {
		t.Error(n)
	}
	wantMatching(t, g, 0, 3)
	z := 6*p - 1<<38 - 1<<37
	wantDuals(t, g, []int{p + 1<<39 + 1<<36, p + 1<<39 + 1<<38 + 1<<36, p + 1<<36, p + 1<<36}, api.Odd{Members: []int{0, 1, 2}, Dual: z})
	wantLabels(t, g, []int{0, p + 1<<39 + 1<<36, 0, 3, 2, z}, []int{0, p + 1<<39 + 1<<38 + 1<<36, 0, 3, 2, z}, []int{3, p + 1<<36, 0, 3, 2, z}, []int{3, p + 1<<36})
	l, e := blossom.Labels(g)
	if must(t, e); !blossom.Good(viewOf(g, l, 3)) {
		t.Error("the view of 3")
	}
	g.Edges = g.Edges[:3]
	wantMatching(t, g, 0)
	z = 8*p - 1<<38
	wantDuals(t, g, []int{1 << 39, 1<<39 + 1<<38, 0, 0}, api.Odd{Members: []int{0, 1, 2}, Dual: z})
	wantLabels(t, g, []int{0, 1 << 39, 0, 3, 2, z}, []int{0, 1<<39 + 1<<38, 0, 3, 2, z}, []int{-1, 0, 0, 3, 2, z}, []int{-1, 0})
}

// P13.1: prices of all numbers and weights, and of others.
func TestPrice(t *testing.T) {
	for id := range 40 {
		for w := -1000; w <= 1000; w++ {
			if n := blossom.Price(edge(id, 0, 1, w)); n != priceOf(edge(id, 0, 1, w)) {
				t.Fatalf("%d, %d: %d", id, w, n)
			}
		}
		for _, w := range []int{-1001, 1001, 1 << 24, 1 << 32, math.MinInt, math.MaxInt} {
			if n := blossom.Price(edge(id, 0, 1, w)); n != 0 {
				t.Errorf("%d, %d: %d", id, w, n)
			}
		}
	}
	for _, id := range []int{-1, -2, -64, 40, 41, 63, 64, 104, math.MinInt, math.MaxInt} {
		for _, w := range []int{-1000, -1, 0, 1, 1000, 1001} {
			if n := blossom.Price(edge(id, 0, 1, w)); n != 0 {
				t.Errorf("%d, %d: %d", id, w, n)
			}
		}
	}
	for _, c := range []struct {
		e    api.Edge
		want int
	}{
		{edge(0, 0, 1, 0), 549755813888},
		{edge(39, 0, 1, 0), 1},
		{edge(38, 0, 1, 1), 1099511627778},
		{edge(39, 0, 1, -1), -1099511627775},
		{edge(0, 0, 1, 1000), 1000*p + p/2},
		{edge(0, 0, 1, -1000), -1000*p + p/2},
		{edge(5, 7, 7, 6), 6*p + 1<<34},
		{api.Edge{ID: 10, From: -5, To: 99, Directed: true, Weight: 3, Cap: -7}, 3*p + 1<<29},
	} {
		if n := blossom.Price(c.e); n != c.want {
			t.Errorf("%+v: %d, not %d", c.e, n, c.want)
		}
	}
}

// P13.1: matchings, dual solutions and labels of all kinds of graphs, as the chapter defines them.
func TestAllKinds(t *testing.T) {
	sizes, odds, depths, left := map[int]int{}, map[int]int{}, map[int]int{}, map[int]int{}
	for _, m := range slices.Concat(samples(), small()) {
		if !graph.Valid(m.g) {
			t.Fatalf("%+v is not valid", m.g)
		}
		if l, e := blossom.Matching(m.g); e != api.OK || !slices.Equal(l, m.edges) {
			t.Fatalf("Matching(%+v) = %v, %d; want %v", m.g, l, e, m.edges)
		}
		d, e := blossom.Duals(m.g)
		if e != api.OK || text(d) != text(m.dual()) {
			t.Fatalf("Duals(%+v) = %v, %d; want %v", m.g, d, e, m.dual())
		}
		l, e := blossom.Labels(m.g)
		if e != api.OK || text(l) != text(m.labels()) {
			t.Fatalf("Labels(%+v) = %v, %d; want %v", m.g, l, e, m.labels())
		}
		depth := 0
		for _, x := range l {
			depth = max(depth, len(setsOf(x.Label)))
		}
		sizes[len(m.edges)]++
		odds[len(d.Odds)]++
		depths[depth]++
		left[m.family.left]++
	}
	for n := range 12 {
		if sizes[n] < 8 {
			t.Error("too few matchings of this size:", n, sizes)
		}
	}
	if odds[1] < 300 || odds[2] < 150 || odds[3] < 100 || odds[4] < 50 || depths[3] < 50 || depths[5] < 20 || depths[11] == 0 {
		t.Error("too few sets:", odds, depths)
	}
	if left[1] < 150 || left[2] < 20 {
		t.Error("too few sets that left the family:", left)
	}
}

// P13.1: each set of a label has one vertex whose mate is not in it.
func TestBases(t *testing.T) {
	free, taken := 0, 0
	for _, m := range slices.Concat(samples(), small()) {
		for s := range m.family.z {
			bases := m.bases(listOf(s))
			if len(bases) != 1 {
				t.Fatalf("%+v: %v of %v", m.g, bases, listOf(s))
			}
			if m.mate[bases[0]] == -1 {
				free++
			} else {
				taken++
			}
		}
	}
	if free < 300 || taken < 300 {
		t.Error("too few bases of a kind:", free, taken)
	}
}

// P13.1: the steps of small graphs, by hand.
func TestSteps(t *testing.T) {
	price := func(id, w int) int { return priceOf(edge(id, 0, 0, w)) }
	// All edges are tight at first, or none is.
	wantDuals(t, numbered(2, [3]int{0, 1, 3}), []int{price(0, 3), price(0, 3)})
	wantDuals(t, numbered(3, [3]int{2, 1, 3}), []int{0, price(0, 3), price(0, 3)})
	wantDuals(t, graphOf(3), []int{0, 0, 0})
	wantDuals(t, numbered(2, [3]int{1, 1, 9}, [3]int{0, 1, -1}), []int{0, 0})
	wantDuals(t, graphOf(2, edge(39, 0, 1, 0)), []int{1, 1})
	// Two outer vertices meet half-way.
	wantDuals(t, numbered(4, [3]int{0, 1, 9}, [3]int{2, 3, 4}), []int{price(0, 9), price(0, 9), price(1, 4), price(1, 4)})
	// The outer vertex 2 meets 1, which has a mate; then 1 is inner, and 0 is outer, too.
	wantDuals(t, numbered(3, [3]int{0, 1, 5}, [3]int{1, 2, 3}), []int{4*p + 1<<39, 6*p + 1<<39, 0})
	wantLabels(t, numbered(3, [3]int{0, 1, 5}, [3]int{1, 2, 3}), []int{0, 4*p + 1<<39}, []int{0, 6*p + 1<<39}, []int{-1, 0})
	// It ends before it meets 1.
	wantDuals(t, numbered(3, [3]int{0, 1, 5}, [3]int{1, 2, 2}), []int{5*p + 1<<39, 5*p + 1<<39, 0})
	// Both ends of a path get mates.
	wantDuals(t, numbered(4, [3]int{0, 1, 6}, [3]int{1, 2, 9}, [3]int{2, 3, 6}), []int{price(0, 6) + price(2, 6) - price(1, 9), price(0, 6) - price(2, 6) + price(1, 9), price(1, 9) + price(2, 6) - price(0, 6), price(0, 6) + price(2, 6) - price(1, 9)})
	// A set that leaves the family again: the vertices 0, 1 and 2 are one node, which is inner when 3 and 4 are outer, until 0 and 1 are a pair, and 2 and 3 another one.
	g := numbered(5, [3]int{0, 1, 10}, [3]int{1, 2, 10}, [3]int{2, 0, 10}, [3]int{2, 3, 9}, [3]int{0, 4, 9})
	if m := modelOf(g); m.family.left != 1 || len(m.family.z) != 0 {
		t.Error(m.family)
	}
	wantMatching(t, g, 0, 3)
	d, e := blossom.Duals(g)
	if must(t, e); len(d.Odds) != 0 {
		t.Error(d)
	}
}

// P13.1: a set in a set in a set: 11 of them contain the vertices 0, 1 and 2, and 24 vertices are not enough for more.
func TestNestedSets(t *testing.T) {
	for _, step := range []int{0, 1, 40, 45} {
		g := onion(step)
		l, e := blossom.Labels(g)
		must(t, e)
		for _, x := range l[:3] {
			if len(x.Label) != 2+4*11 || len(x.Label) > api.MaxLabel {
				t.Errorf("%d: %v", step, x)
			}
			for i, s := range setsOf(x.Label) {
				if s[0] != 0 || s[1] != 2*i+3 {
					t.Errorf("%d: %v", step, s)
				}
			}
		}
		for _, x := range l {
			if v := viewOf(g, l, x.ID); !blossom.Good(v) || !isGood(v) {
				t.Errorf("%d: %v", step, x)
			}
		}
		d, e := blossom.Duals(g)
		if must(t, e); len(d.Odds) != 11 {
			t.Errorf("%d: %v", step, d)
		}
	}
}

// P13.1: sets are sorted by their least members, and those with the same one by their sizes, whenever they entered the family.
func TestOrderOfSets(t *testing.T) {
	// The set of 5, 6 and 7 enters first, then that of 0, 1 and 2, then 4 and 8 join the first one.
	g := numbered(9, [3]int{5, 6, 900}, [3]int{6, 7, 900}, [3]int{7, 5, 900}, [3]int{0, 1, 800}, [3]int{1, 2, 800}, [3]int{2, 0, 800}, [3]int{5, 4, 700}, [3]int{4, 8, 700}, [3]int{8, 6, 700})
	d, e := blossom.Duals(g)
	must(t, e)
	var members [][]int
	for _, o := range d.Odds {
		members = append(members, o.Members)
	}
	if text(members) != "[[0 1 2] [4 5 6 7 8] [5 6 7]]" {
		t.Error(d.Odds)
	}
	l, e := blossom.Labels(g)
	must(t, e)
	if s := setsOf(l[5].Label); len(s) != 2 || s[0][0] != 5 || s[0][1] != 3 || s[1][0] != 4 || s[1][1] != 5 {
		t.Error(l[5])
	}
}

// P13.1: graphs that are known to be difficult; the mates of the vertices from 1 on.
func TestKnownGraphs(t *testing.T) {
	for i, want := range [][]int{
		{2, 1, 4, 3},
		{6, 3, 2, 5, 4, 1},
		{6, 3, 2, 5, 4, 1},
		{6, 3, 2, 5, 4, 1},
		{2, 1, 6, 5, 4, 3},
		{3, 4, 1, 2, 6, 5},
		{2, 1, 4, 3, 6, 5, 8, 7},
		{2, 1, 5, 6, 3, 4, 8, 7},
		{6, 3, 2, 8, 7, 1, 5, 4},
		{8, 3, 2, 7, 6, 5, 4, 1},
		{6, 3, 2, 8, 7, 1, 5, 4, 10, 9},
		{6, 3, 2, 8, 7, 1, 5, 4, 10, 9},
		{6, 3, 2, 8, 7, 1, 5, 4, 10, 9},
		{8, 3, 2, 6, 9, 4, 10, 1, 5, 7, 12, 11},
		{2, 1, 5, 9, 3, 7, 6, 10, 4, 8},
	} {
		g := known()[i]
		l, e := blossom.Matching(g)
		must(t, e)
		mates := make([]int, len(want))
		for _, id := range l {
			mates[g.Edges[id].From-1], mates[g.Edges[id].To-1] = g.Edges[id].To, g.Edges[id].From
		}
		if !slices.Equal(mates, want) {
			t.Errorf("%+v: %v, not %v", g, mates, want)
		}
	}
}

// P13.1: of matchings with the same weight, the one that has the least edge in which they differ; an edge of the weight 0 belongs to it, one with a negative weight does not.
func TestEqualWeights(t *testing.T) {
	// The edge 0 alone, or 1 and 2 together.
	wantMatching(t, numbered(4, [3]int{0, 2, 5}, [3]int{0, 3, 2}, [3]int{1, 2, 3}), 0)
	wantMatching(t, graphOf(4, edge(1, 0, 3, 2), edge(2, 1, 2, 3), edge(3, 0, 2, 5)), 1, 2)
	wantMatching(t, graphOf(4, edge(1, 0, 3, 2), edge(2, 0, 2, 5), edge(3, 1, 2, 3)), 1, 3)
	wantMatching(t, graphOf(4, edge(4, 0, 2, 0), edge(5, 0, 3, 0), edge(6, 1, 2, 0)), 4)
	wantMatching(t, graphOf(4, edge(4, 0, 3, 0), edge(5, 0, 2, 0), edge(6, 1, 2, 0)), 4, 6)
	wantMatching(t, graphOf(4, edge(4, 0, 3, 0), edge(5, 0, 2, 1), edge(6, 1, 2, 0)), 5)
	wantMatching(t, graphOf(4, edge(4, 0, 3, 0), edge(5, 0, 2, 1), edge(6, 1, 2, 1)), 4, 6)
	// Three ways to match all four vertices, and parallel edges.
	wantMatching(t, complete(4, func(a, b int) int { return 7 }), 0, 5)
	wantMatching(t, complete(4, func(a, b int) int { return 7 - a/2 }), 1, 4)
	wantMatching(t, complete(3, func(a, b int) int { return 0 }), 0)
	wantMatching(t, ring(5, 1), 0, 2)
	wantMatching(t, ring(5, 1, 2), 1, 3)
	wantMatching(t, graphOf(2, edge(37, 0, 1, 4), edge(38, 1, 0, 5), edge(39, 0, 1, 5)), 38)
	wantMatching(t, graphOf(2, edge(37, 0, 1, 0), edge(38, 1, 0, -5)), 37)
	wantMatching(t, graphOf(2, edge(37, 0, 1, -1), edge(38, 1, 0, -1000)))
	wantMatching(t, graphOf(1, edge(37, 0, 0, 1000)))
}

// P13.1: the greatest numbers: of weights, vertices and edges.
func TestGreatNumbers(t *testing.T) {
	g := ring(24, 1000)
	wantMatching(t, g, 0, 2, 4, 6, 8, 10, 12, 14, 16, 18, 20, 22)
	g = ring(23, 1000)
	wantMatching(t, g, 0, 2, 4, 6, 8, 10, 12, 14, 16, 18, 20)
	d, e := blossom.Duals(g)
	if must(t, e); len(d.Odds) != 1 || len(d.Odds[0].Members) != 23 || d.Odds[0].Dual < 1990*p || d.Odds[0].Dual > 2001*p {
		t.Error(d)
	}
	wantMatching(t, complete(9, func(a, b int) int { return 1000 }), 0, 5, 14, 27)
	// All edges are at one vertex; one of them is a loop, and some are parallel.
	star := graphOf(24)
	for id := range 40 {
		star.Edges = append(star.Edges, edge(id, 5, (id+5)%24, 1000))
	}
	wantMatching(t, star, 1)
	wantLabels(t, graphOf(2, edge(39, 0, 1, 1000)), []int{39, 1000*p + 1}, []int{39, 1000*p + 1})
}

// P13.1: what is not valid has no labels, no matching and no dual solution.
func TestInvalidGraphs(t *testing.T) {
	for _, g := range broken() {
		wantNothing(t, g)
	}
	wantNothing(t, api.Graph{Depots: []int{0}})
	wantNothing(t, api.Graph{Edges: []api.Edge{{}}})
}
