package pair_test

import (
	"math"
	"slices"
	"testing"

	"clearway/api"
	"clearway/graph"
	"clearway/pair"
)

// wantMatching fails the test if the matching of g has another weight or other edges.
func wantMatching(t *testing.T, g api.Graph, weight int, want ...int) {
	t.Helper()
	if l, n, e := pair.Matching(g); e != api.OK || n != weight || !slices.Equal(l, want) {
		t.Errorf("Matching(%+v) = %v, %d, %d; want %v, %d", g, l, n, e, want, weight)
	}
}

// wantLabels fails the test if the labels of g are others than those that are given for each vertex, in order.
func wantLabels(t *testing.T, g api.Graph, want ...[]int) {
	t.Helper()
	l, e := pair.Labels(g)
	if e != api.OK || len(l) != len(g.Vertices) || len(l) != len(want) {
		t.Fatalf("Labels(%+v) = %v, %d", g, l, e)
	}
	for i, x := range l {
		if x.ID != g.Vertices[i].ID || !slices.Equal(x.Label, want[i]) {
			t.Errorf("Labels(%+v) of %d = %v; want %v", g, x.ID, x.Label, want[i])
		}
	}
}

// wantNothing fails the test if one of the calls returns something but an error.
func wantNothing(t *testing.T, g api.Graph) {
	t.Helper()
	l, e := pair.Labels(g)
	m, n, f := pair.Matching(g)
	if len(l) != 0 || len(m) != 0 || n != 0 || e != api.ErrPair || f != api.ErrPair {
		t.Fatalf("%+v: %v, %d, %v, %d, %d", g, l, e, m, n, f)
	}
}

// The examples of the chapter.
func TestExamples(t *testing.T) {
	g := example()
	wantMatching(t, g, 8, 1, 2)
	wantLabels(t, g, []int{1, p + 1<<39 - 1<<37, 1}, []int{2, 0, 1}, []int{2, 4*p + 1<<37, 2}, []int{1, 3*p + 1<<38 - 1<<39 + 1<<37, 2})
	g.Edges = g.Edges[:2]
	wantMatching(t, g, 5, 0)
	wantLabels(t, g, []int{0, 4*p + 1<<38, 1}, []int{-1, 0, 1}, []int{0, p + 1<<39 - 1<<38, 2}, []int{-1, 0, 2})
}

// P12.1: prices of all numbers and weights, and of others.
func TestPrice(t *testing.T) {
	for id := range 40 {
		for w := -1000; w <= 1000; w++ {
			if n := pair.Price(edge(id, 0, 1, w)); n != priceOf(edge(id, 0, 1, w)) {
				t.Fatalf("%d, %d: %d", id, w, n)
			}
		}
		for _, w := range []int{-1001, 1001, 1 << 24, 1 << 32, math.MinInt, math.MaxInt} {
			if n := pair.Price(edge(id, 0, 1, w)); n != 0 {
				t.Errorf("%d, %d: %d", id, w, n)
			}
		}
	}
	for _, id := range []int{-1, -2, -64, 40, 41, 63, 64, 104, math.MinInt, math.MaxInt} {
		for _, w := range []int{-1000, -1, 0, 1, 1000, 1001} {
			if n := pair.Price(edge(id, 0, 1, w)); n != 0 {
				t.Errorf("%d, %d: %d", id, w, n)
			}
		}
	}
	for _, c := range []struct {
		e    api.Edge
		want int
	}{
		{edge(0, 0, 1, 0), 549755813888},
		{edge(39, 0, 1, 0), 1},
		{edge(38, 0, 1, 1), 1099511627778},
		{edge(39, 0, 1, -1), -1099511627775},
		{edge(0, 0, 1, 1000), 1000*p + p/2},
		{edge(0, 0, 1, -1000), -1000*p + p/2},
		{api.Edge{ID: 10, From: -5, To: 99, Directed: true, Weight: 3, Cap: -7}, 3*p + 1<<29},
	} {
		if n := pair.Price(c.e); n != c.want {
			t.Errorf("%+v: %d, not %d", c.e, n, c.want)
		}
	}
}

// P12.1: matchings and labels of all kinds of graphs, as the chapter defines them.
func TestMatchingsAndLabels(t *testing.T) {
	sizes := map[int]int{}
	for _, g := range slices.Concat(samples(), small()) {
		if !graph.Valid(g) {
			t.Fatalf("%+v is not valid", g)
		}
		m := modelOf(g)
		if l, n, e := pair.Matching(g); e != api.OK || !slices.Equal(l, m.edges) || n != m.weight {
			t.Fatalf("Matching(%+v) = %v, %d, %d; want %v, %d", g, l, n, e, m.edges, m.weight)
		}
		if l, e := pair.Labels(g); e != api.OK || text(l) != text(m.labels()) {
			t.Fatalf("Labels(%+v) = %v, %d; want %v", g, l, e, m.labels())
		}
		sizes[len(m.edges)]++
	}
	for n := range 9 {
		if sizes[n] < 8 {
			t.Error("too few matchings of this size:", n, sizes)
		}
	}
}

// chains calls f with what each chain asks of the dual of the left vertex u at least: from a left vertex over an eligible edge to a right one, and from there back over the edge of the matching, as often as one likes, but never twice to the same vertex.
func (m model) chains(u int, been map[int]bool, sum int, f func(least int)) {
	f(sum)
	been[u] = true
	for _, b := range m.bonds {
		if b.left != u || b.edge == m.edge[u] {
			continue
		}
		if m.edge[b.right] == -1 {
			f(sum + b.price)
			continue
		}
		i := slices.IndexFunc(m.bonds, func(c bond) bool { return c.edge == m.edge[b.right] })
		if c := m.bonds[i]; !been[c.left] {
			m.chains(c.left, been, sum+b.price-c.price, f)
		}
	}
	been[u] = false
}

// P12.1: the duals on the left are the least ones, all at the same time: those that chains of edges ask for.
func TestLeastDuals(t *testing.T) {
	matched := 0
	for _, g := range slices.Concat(samples(), small()) {
		m := modelOf(g)
		l, e := pair.Labels(g)
		must(t, e)
		for _, x := range l {
			if x.Label[2] != 1 || x.Label[0] == -1 {
				continue
			}
			matched++
			least := 0
			m.chains(x.ID, map[int]bool{}, 0, func(n int) { least = max(least, n) })
			if x.Label[1] != least {
				t.Fatalf("%d in %+v: %v, not %d", x.ID, g, x.Label, least)
			}
		}
	}
	if matched < 2000 {
		t.Error("matched:", matched)
	}
}

// P12.1: of matchings with the same weight, the one that has the least edge in which they differ; an edge of the weight 0 belongs to it, one with a negative weight does not.
func TestEqualWeights(t *testing.T) {
	sides := []int{1, 1, 2, 2}
	// The edge 0 alone, or 1 and 2 together.
	wantMatching(t, graphOf(sides, edge(0, 0, 2, 5), edge(1, 0, 3, 2), edge(2, 1, 2, 3)), 5, 0)
	wantMatching(t, graphOf(sides, edge(1, 0, 3, 2), edge(2, 1, 2, 3), edge(3, 0, 2, 5)), 5, 1, 2)
	wantMatching(t, graphOf(sides, edge(1, 0, 3, 2), edge(2, 0, 2, 5), edge(3, 1, 2, 3)), 5, 1, 3)
	wantMatching(t, graphOf(sides, edge(4, 0, 2, 0), edge(5, 0, 3, 0), edge(6, 1, 2, 0)), 0, 4)
	wantMatching(t, graphOf(sides, edge(4, 0, 3, 0), edge(5, 0, 2, 0), edge(6, 1, 2, 0)), 0, 4, 6)
	wantMatching(t, graphOf(sides, edge(4, 0, 3, 0), edge(5, 0, 2, 1), edge(6, 1, 2, 0)), 1, 5)
	wantMatching(t, graphOf(sides, edge(4, 0, 3, 0), edge(5, 0, 2, 1), edge(6, 1, 2, 1)), 1, 4, 6)
	// Two ways to match all, and parallel edges.
	wantMatching(t, graphOf(sides, edge(0, 0, 3, 1), edge(1, 0, 2, 1), edge(2, 1, 3, 1), edge(3, 1, 2, 1)), 2, 0, 3)
	wantMatching(t, graphOf(sides, edge(0, 0, 3, 1), edge(1, 0, 2, 1), edge(2, 1, 3, 2), edge(3, 1, 2, 1)), 3, 1, 2)
	wantMatching(t, graphOf([]int{1, 2}, edge(37, 0, 1, 4), edge(38, 1, 0, 5), edge(39, 0, 1, 5)), 5, 38)
	wantMatching(t, graphOf([]int{1, 2}, edge(37, 0, 1, 0), edge(38, 1, 0, -5)), 0, 37)
	wantMatching(t, graphOf([]int{1, 2}, edge(37, 0, 1, -1), edge(38, 1, 0, -1000)), 0)
}

// P12.1: only edges between both sides are eligible, in either direction, and labels tell no other sides.
func TestSides(t *testing.T) {
	for from := range 4 {
		for _, e := range []api.Edge{edge(9, 0, 1, 7), to(9, 0, 1, 7), to(9, 1, 0, 7)} {
			for other := range 4 {
				g := graphOf([]int{from, other}, e)
				told := []int{0, 1, 2, 0}
				if from+other == 3 && from*other == 2 {
					a, b := 0, 7*p+1<<30
					if from == 2 {
						a, b = b, a
					}
					wantMatching(t, g, 7, 9)
					wantLabels(t, g, []int{9, a, told[from]}, []int{9, b, told[other]})
				} else {
					wantMatching(t, g, 0)
					wantLabels(t, g, []int{-1, 0, told[from]}, []int{-1, 0, told[other]})
				}
			}
		}
		wantMatching(t, graphOf([]int{from}, edge(3, 0, 0, 1000)), 0)
	}
}

// P12.1: where a chain ends at a free right vertex, each left dual is what the next one is, and the difference of two edges; where it ends at a free left vertex, the right duals are so.
func TestChains(t *testing.T) {
	price := func(id, w int) int { return priceOf(edge(id, 0, 0, w)) }
	// 0 and 2 are on the left; of 1, 3 and 5 on the right, the last one is free.
	g := graphOf([]int{1, 2, 1, 2, 0, 2}, edge(0, 0, 1, 9), edge(1, 1, 2, 7), edge(2, 2, 3, 6), edge(3, 2, 5, 4))
	wantMatching(t, g, 15, 0, 2)
	wantLabels(t, g, []int{0, 0, 1}, []int{0, price(0, 9), 2}, []int{2, price(3, 4), 1}, []int{2, price(2, 6) - price(3, 4), 2}, []int{-1, 0, 0}, []int{-1, 0, 2})
	// 2 would rather have 1 than 5, but then 0 has nothing.
	g.Edges[1].Weight = 12
	wantMatching(t, g, 15, 0, 2)
	wantLabels(t, g, []int{0, 0, 1}, []int{0, price(0, 9), 2}, []int{2, price(3, 4), 1}, []int{2, price(2, 6) - price(3, 4), 2}, []int{-1, 0, 0}, []int{-1, 0, 2})
	g.Edges[1].Weight = 14
	wantMatching(t, g, 15, 0, 2)
	wantLabels(t, g, []int{0, 0, 1}, []int{0, price(0, 9), 2}, []int{2, price(1, 14) - price(0, 9), 1}, []int{2, price(2, 6) - price(1, 14) + price(0, 9), 2}, []int{-1, 0, 0}, []int{-1, 0, 2})
	// 0 would rather have 3, which is worth to 2 what 2 does not get from 5.
	g = graphOf([]int{1, 2, 1, 2, 0, 2}, edge(0, 0, 1, 9), edge(1, 0, 3, 9), edge(2, 2, 3, 6), edge(3, 2, 5, 4))
	wantMatching(t, g, 15, 0, 2)
	wantLabels(t, g, []int{0, price(1, 9) - price(2, 6) + price(3, 4), 1}, []int{0, price(0, 9) - price(1, 9) + price(2, 6) - price(3, 4), 2}, []int{2, price(3, 4), 1}, []int{2, price(2, 6) - price(3, 4), 2}, []int{-1, 0, 0}, []int{-1, 0, 2})
	// A free left vertex: what it would give for 1 stays with 1.
	g = graphOf([]int{1, 2, 1}, edge(0, 0, 1, 9), edge(1, 1, 2, 7))
	wantLabels(t, g, []int{0, 0, 1}, []int{0, price(0, 9), 2}, []int{-1, 0, 1})
}

// P12.1: the longest chains and the greatest duals.
func TestGreatNumbers(t *testing.T) {
	g := chain(1000)
	wantMatching(t, g, 12000, 0, 2, 4, 6, 8, 10, 12, 14, 16, 18, 20, 22)
	l, e := pair.Labels(g)
	must(t, e)
	for _, x := range l {
		// All edges of a chain have nearly the same price: each left vertex but the first one asks for the lack of 2^(39-ID) - 2^(38-ID), or none, as the edge of the matching comes first.
		want := 0
		if x.ID%2 == 1 {
			want = priceOf(g.Edges[x.ID-1])
		}
		if x.Label[1] != want {
			t.Errorf("%d: %v, not %d", x.ID, x.Label, want)
		}
	}
	// Without the vertex 0, each left vertex may have one of two: 22 gets the last one, or 21.
	g.Vertices[0].Side = 0
	wantMatching(t, g, 11000, 1, 3, 5, 7, 9, 11, 13, 15, 17, 19, 21)
	l, e = pair.Labels(g)
	must(t, e)
	for id := 22; id > 0; id -= 2 {
		want := priceOf(g.Edges[22])
		for at := 22; at > id; at -= 2 {
			want += priceOf(g.Edges[at-2]) - priceOf(g.Edges[at-1])
		}
		if l[id].Label[1] != want {
			t.Errorf("%d: %v, not %d", id, l[id], want)
		}
	}
	wantLabels(t, graphOf([]int{1, 2, 2}, edge(0, 0, 1, 1000), edge(1, 0, 2, 1000)), []int{0, 1000*p + 1<<38, 1}, []int{0, 1 << 38, 2}, []int{-1, 0, 2})
	wantLabels(t, graphOf([]int{2, 1}, edge(0, 0, 1, 1000)), []int{0, 1000*p + 1<<39, 2}, []int{0, 0, 1})
	wantLabels(t, graphOf([]int{2, 1}, edge(39, 0, 1, 0)), []int{39, 1, 2}, []int{39, 0, 1})
	// One left vertex and 23 right ones, and the other way round.
	for side := 1; side < 3; side++ {
		g := star(side)
		prices := []int{}
		for _, e := range g.Edges {
			prices = append(prices, priceOf(e))
		}
		best := slices.Index(prices, slices.Max(prices))
		wantMatching(t, g, g.Edges[best].Weight, best)
		second := 0
		for _, e := range g.Edges {
			if e.From != g.Edges[best].From {
				second = max(second, priceOf(e))
			}
		}
		l, e := pair.Labels(g)
		if must(t, e); side == 1 && l[0].Label[1] != second || side == 2 && l[0].Label[1] != prices[best] {
			t.Error(side, l)
		}
	}
}

// P12.1: what is not valid has no labels and no matching.
func TestInvalidGraphs(t *testing.T) {
	for _, g := range broken() {
		wantNothing(t, g)
	}
	wantNothing(t, api.Graph{Depots: []int{0}})
	wantNothing(t, api.Graph{Edges: []api.Edge{{}}})
}
