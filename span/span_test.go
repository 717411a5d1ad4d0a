package span_test

import (
	"math"
	"math/rand"
	"slices"
	"testing"

	"clearway/api"
	"clearway/span"
)

// wantLabels fails the test if the labels of g are others.
func wantLabels(t *testing.T, g api.Graph, want string) {
	t.Helper()
	if l, e := span.Labels(g); e != api.OK || text(l) != want {
		t.Errorf("Labels(%+v) = %v, %d; want %s", g, l, e, want)
	}
}

// wantTree fails the test if the forest of g has other edges.
func wantTree(t *testing.T, g api.Graph, want ...int) {
	t.Helper()
	if l, e := span.Tree(g); e != api.OK || !slices.Equal(l, want) {
		t.Errorf("Tree(%+v) = %v, %d; want %v", g, l, e, want)
	}
}

// wantHeaviest fails the test if Heaviest differs from the bottlenecks m of g.
func wantHeaviest(t *testing.T, g api.Graph, m bottlenecks, a, b int) {
	t.Helper()
	want, of := 0, api.ErrSpan
	if id, connected := m[[2]int{a, b}]; connected {
		want, of = id, api.OK
	}
	if id, e := span.Heaviest(g, a, b); id != want || e != of {
		t.Fatalf("Heaviest(%+v, %d, %d) = %d, %d; want %d, %d", g, a, b, id, e, want, of)
	}
}

// The examples of the chapter.
func TestExamples(t *testing.T) {
	g := example()
	wantTree(t, g, 0, 1, 2)
	wantLabels(t, g, "[{ID:0 Label:[0 0 -1 0 5 0 0 -1 -1 0]} {ID:1 Label:[1 0 -1 1 3 0 1 0 -1 0]} {ID:2 Label:[2 0 -1 1 3 0 2 1 -1 0]} {ID:3 Label:[3 0 -1 2 3 0 3 2 -1 0]}]")
	for _, c := range [][3]int{{0, 3, 0}, {1, 3, 2}, {2, 2, -1}} {
		if id, e := span.Heaviest(g, c[0], c[1]); id != c[2] || e != api.OK {
			t.Error(c, id, e)
		}
	}
}

// P10.1: labels and edges of all kinds of graphs, as the chapter defines them.
func TestLabelsAndTree(t *testing.T) {
	rounds := map[int]int{}
	for _, g := range slices.Concat(samples(), small()) {
		l := modelOf(g)
		wantLabels(t, g, text(l))
		wantTree(t, g, idsOf(forestOf(g))...)
		for _, x := range l {
			rounds[len(x.Label)/5]++
		}
	}
	for n := 1; n <= 5; n++ {
		if rounds[n] < 20 {
			t.Error("too few labels with so many rounds:", n, rounds[n])
		}
	}
}

// P10.1: without edges, or with loops only, each fragment is finished in the round 0.
func TestSingleVertices(t *testing.T) {
	for _, l := range [][]api.Edge{nil, {edge(0, 5, 5, -1000), edge(1, 7, 7, 1000)}} {
		g := graphOf([]int{0, 5, 7}, l...)
		wantLabels(t, g, "[{ID:0 Label:[0 0 -1 -1 0]} {ID:5 Label:[5 0 -1 -1 0]} {ID:7 Label:[7 0 -1 -1 0]}]")
		wantTree(t, g)
	}
	wantLabels(t, api.Graph{}, "[]")
	wantTree(t, api.Graph{})
}

// P10.1: the root of a fragment that is finished is its least vertex, whatever it was before.
func TestLastRoots(t *testing.T) {
	wantLabels(t, graphOf([]int{2, 9}, edge(8, 9, 2, -7)), "[{ID:2 Label:[2 0 -1 8 -7 2 0 -1 -1 0]} {ID:9 Label:[9 0 -1 8 -7 2 1 8 -1 0]}]")
	// 3 is least, but at the end of the path.
	g := graphOf([]int{3, 4, 5, 6}, edge(0, 5, 3, 3), edge(1, 6, 5, 2), edge(2, 4, 6, 1))
	wantLabels(t, g, "[{ID:3 Label:[3 0 -1 0 3 3 0 -1 -1 0]} {ID:4 Label:[4 0 -1 2 1 3 3 2 -1 0]} {ID:5 Label:[5 0 -1 1 2 3 1 0 -1 0]} {ID:6 Label:[6 0 -1 2 1 3 2 1 -1 0]}]")
}

// P10.1: in the rounds between, roots are where the chosen edge leaves, and trees hang from there.
func TestRootsBetween(t *testing.T) {
	// 0 and 1, 2 and 3, 4 and 5 are joined first; then the first two by the edge 5, which is less than 3 of the same weight; the last one chooses 7.
	g := graphOf([]int{0, 1, 2, 3, 4, 5}, edge(0, 0, 1, -2), edge(1, 2, 3, -2), edge(2, 4, 5, -2), edge(5, 3, 0, 6), edge(6, 1, 2, 6), edge(7, 4, 1, 8), edge(8, 5, 3, 8), edge(9, 4, 4, -9))
	wantTree(t, g, 0, 1, 2, 5, 7)
	wantLabels(t, g, "[{ID:0 Label:[0 0 -1 0 -2 0 0 -1 5 6 0 0 -1 -1 0]} {ID:1 Label:[1 0 -1 0 -2 0 1 0 5 6 0 1 0 -1 0]} "+
		"{ID:2 Label:[2 0 -1 1 -2 3 1 1 5 6 0 2 1 -1 0]} {ID:3 Label:[3 0 -1 1 -2 3 0 -1 5 6 0 1 5 -1 0]} "+
		"{ID:4 Label:[4 0 -1 2 -2 4 0 -1 7 8 0 2 7 -1 0]} {ID:5 Label:[5 0 -1 2 -2 4 1 2 7 8 0 3 2 -1 0]}]")
}

// P10.1: components finish in rounds of their own.
func TestComponents(t *testing.T) {
	g := graphOf([]int{0, 1, 2, 20, 21, 22, 23}, edge(0, 20, 21, 1), edge(1, 22, 23, 1), edge(2, 21, 22, 7), edge(3, 20, 23, 7), edge(4, 1, 2, 0))
	wantTree(t, g, 0, 1, 2, 4)
	wantLabels(t, g, "[{ID:0 Label:[0 0 -1 -1 0]} {ID:1 Label:[1 0 -1 4 0 1 0 -1 -1 0]} {ID:2 Label:[2 0 -1 4 0 1 1 4 -1 0]} "+
		"{ID:20 Label:[20 0 -1 0 1 21 1 0 2 7 20 0 -1 -1 0]} {ID:21 Label:[21 0 -1 0 1 21 0 -1 2 7 20 1 0 -1 0]} "+
		"{ID:22 Label:[22 0 -1 1 1 22 0 -1 2 7 20 2 2 -1 0]} {ID:23 Label:[23 0 -1 1 1 22 1 1 2 7 20 3 1 -1 0]}]")
}

// P10.1: of parallel edges, and of those with the same weight, the least one counts.
func TestChoices(t *testing.T) {
	ids := []int{0, 1, 2}
	wantTree(t, graphOf(ids, edge(0, 0, 1, 1), edge(1, 1, 0, 1), edge(2, 1, 1, -5), edge(3, 1, 2, -2), edge(4, 2, 1, -3)), 0, 4)
	wantTree(t, graphOf(ids, edge(0, 0, 1, 1), edge(1, 1, 2, 1), edge(2, 2, 0, 1)), 0, 1)
	wantTree(t, graphOf(ids, edge(7, 2, 0, 1), edge(38, 1, 2, 1), edge(39, 0, 1, 1)), 7, 38)
	wantTree(t, graphOf(ids, edge(7, 2, 0, 1), edge(38, 1, 2, 1), edge(39, 0, 1, 0)), 7, 39)
	wantTree(t, graphOf(ids, edge(7, 2, 0, 1000), edge(38, 1, 2, -1000), edge(39, 0, 1, -999)), 38, 39)
}

// P10.1: five rounds, which is as many as there can be.
func TestRuler(t *testing.T) {
	g := ruler()
	wantTree(t, g, 16, 17, 18, 19, 20, 21, 22, 23, 24, 25, 26, 27, 28, 29, 30, 31, 32, 33, 34, 35, 36, 37, 38)
	l, e := span.Labels(g)
	must(t, e)
	// The edge 39 - i leads from i to i - 1. After the round 0, 10 and 11 are one fragment; then 8 to 11; then 8 to 15; then all.
	want := "[11 0 -1 28 -1000 10 1 28 29 -500 11 0 -1 27 0 8 3 28 31 500 0 11 28 -1 0]"
	if text(l[11].Label) != want {
		t.Errorf("%v; want %s", l[11].Label, want)
	}
	// 16 and 17 are one fragment, then 16 to 19, and then 16 to 23, which alone chooses the edge from 16 to 15.
	want = "[17 0 -1 22 -1000 17 0 -1 21 -500 19 2 21 19 0 16 1 22 23 1000 0 17 22 -1 0]"
	if text(l[17].Label) != want {
		t.Errorf("%v; want %s", l[17].Label, want)
	}
}

// P10.1: Less goes by weights, and then by numbers, and by nothing else, whatever they are.
func TestLess(t *testing.T) {
	for i, c := range []struct {
		a, b api.Edge
		want bool
	}{
		{edge(1, 0, 0, 3), edge(2, 0, 0, 3), true},
		{edge(2, 0, 0, 3), edge(1, 0, 0, 3), false},
		{edge(2, 0, 0, 3), edge(2, 0, 0, 3), false},
		{edge(2, 0, 0, 2), edge(1, 0, 0, 3), true},
		{edge(1, 0, 0, 3), edge(2, 0, 0, 2), false},
		{api.Edge{ID: 1, From: 9, To: 9, Directed: true, Cap: 9}, edge(2, 0, 0, 0), true},
		{api.Edge{ID: 1, From: 9}, api.Edge{ID: 1, To: 9, Directed: true, Cap: 7}, false},
		{api.Edge{ID: 1, To: 9, Directed: true, Cap: 7}, api.Edge{ID: 1, From: 9}, false},
		{edge(0, 0, 0, math.MinInt), edge(0, 0, 0, math.MaxInt), true},
		{edge(0, 0, 0, math.MaxInt), edge(0, 0, 0, math.MinInt), false},
		{edge(math.MinInt, 0, 0, 0), edge(math.MaxInt, 0, 0, 0), true},
		{edge(math.MaxInt, 0, 0, 0), edge(math.MinInt, 0, 0, 0), false},
	} {
		if less := span.Less(c.a, c.b); less != c.want {
			t.Error(i, less)
		}
	}
	r := rand.New(rand.NewSource(3))
	for range 20000 {
		a, b := edge(anyInt(r), anyInt(r), anyInt(r), anyInt(r)), edge(anyInt(r), anyInt(r), anyInt(r), anyInt(r))
		if span.Less(a, b) != lesser(a, b) {
			t.Fatal(a, b)
		}
	}
}

// P10.1: Heaviest of all vertices, and that other numbers are no vertices.
func TestHeaviest(t *testing.T) {
	for _, g := range slices.Concat(samples()[:150], small()) {
		m := bottlenecksOf(g)
		for a := -1; a < 26; a++ {
			for b := -1; b < 26; b++ {
				wantHeaviest(t, g, m, a, b)
			}
		}
		for _, id := range []int{math.MinInt, -1 << 32, 1 << 32, math.MaxInt} {
			wantHeaviest(t, g, m, id, 0)
			wantHeaviest(t, g, m, 0, id)
			wantHeaviest(t, g, m, id, id)
		}
	}
}

// P10.1: Heaviest on a path, on which the greatest edge may be anywhere, and is the greater one by its number if weights are equal.
func TestHeaviestOnPaths(t *testing.T) {
	g := graphOf([]int{0, 1, 2, 3, 4, 5, 9}, edge(2, 0, 1, -5), edge(3, 2, 1, 4), edge(8, 2, 3, 4), edge(9, 4, 3, -1000), edge(10, 4, 5, 3), edge(20, 5, 0, 5), edge(21, 9, 9, 1000))
	for _, c := range [][3]int{{0, 1, 2}, {0, 2, 3}, {0, 3, 8}, {0, 4, 8}, {0, 5, 8}, {1, 2, 3}, {1, 5, 8}, {2, 3, 8}, {3, 4, 9}, {3, 5, 10}, {9, 9, -1}} {
		for range 2 {
			if id, e := span.Heaviest(g, c[0], c[1]); id != c[2] || e != api.OK {
				t.Error(c, id, e)
			}
			c[0], c[1] = c[1], c[0]
		}
	}
	for _, id := range []int{-1, 6, 9, 24} {
		for range 2 {
			if n, e := span.Heaviest(g, 0, id); n != 0 || e != api.ErrSpan {
				t.Error(id, n, e)
			}
			if n, e := span.Heaviest(g, id, 0); n != 0 || e != api.ErrSpan {
				t.Error(id, n, e)
			}
		}
	}
}

// P10.1: nothing but errors for graphs that are not valid.
func TestGraphsThatAreNotValid(t *testing.T) {
	for _, g := range broken() {
		if l, e := span.Labels(g); e != api.ErrSpan || len(l) != 0 {
			t.Errorf("Labels(%+v) = %v, %d", g, l, e)
		}
		if l, e := span.Tree(g); e != api.ErrSpan || len(l) != 0 {
			t.Errorf("Tree(%+v) = %v, %d", g, l, e)
		}
		for a := -1; a < 26; a++ {
			for b := -1; b < 26; b++ {
				if id, e := span.Heaviest(g, a, b); id != 0 || e != api.ErrSpan {
					t.Fatalf("Heaviest(%+v, %d, %d) = %d, %d", g, a, b, id, e)
				}
			}
		}
	}
}
