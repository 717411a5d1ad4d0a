package forest_test

import (
	"math"
	"slices"
	"testing"

	"clearway/api"
	"clearway/forest"
)

// The examples of the chapter.
func TestExamples(t *testing.T) {
	g := example()
	l, e := forest.Labels(g)
	if want := "[{ID:0 Label:[0 0 -1]} {ID:1 Label:[1 0 -1]} {ID:2 Label:[1 1 0]} {ID:3 Label:[1 1 4]} {ID:5 Label:[5 0 -1]}]"; e != api.OK || text(l) != want {
		t.Errorf("%+v, %d", l, e)
	}
	if ok, e := forest.Connected(g, 2, 3); !ok || e != api.OK {
		t.Error(ok, e)
	}
	if ok, e := forest.Connected(g, 0, 5); ok || e != api.OK {
		t.Error(ok, e)
	}
	if l, e := forest.Path(g, 2, 3); !slices.Equal(l, []int{0, 4}) || e != api.OK {
		t.Error(l, e)
	}
	if l, e := forest.Path(g, 3, 3); len(l) != 0 || e != api.OK {
		t.Error(l, e)
	}
	if l, e := forest.Side(g, 3); !slices.Equal(l, []int{1, 2, 3}) || e != api.OK {
		t.Error(l, e)
	}
	if !forest.CheckPath(g, 2, 3, []int{6}) || forest.CheckSide(g, 0, 5, []int{0, 1}) {
		t.Error("checks")
	}
}

// wantAnswers fails the test if Connected, Path or Side of a and b differ from the model m of the valid graph g.
func wantAnswers(t *testing.T, g api.Graph, m model, a, b int) {
	t.Helper()
	var connected bool
	var path, side []int
	ofBoth, ofPath, ofSide := api.ErrForest, api.ErrForest, api.ErrForest
	if hasVertex(g, a) {
		side, ofSide = m.side(a), api.OK
	}
	if hasVertex(g, a) && hasVertex(g, b) {
		connected, ofBoth = slices.Contains(side, b), api.OK
	}
	if connected {
		path, ofPath = m.path(g, a, b), api.OK
	}
	if ok, e := forest.Connected(g, a, b); ok != connected || e != ofBoth {
		t.Fatalf("Connected(%+v, %d, %d) = %v, %d", g, a, b, ok, e)
	}
	if l, e := forest.Path(g, a, b); !slices.Equal(l, path) || e != ofPath {
		t.Fatalf("Path(%+v, %d, %d) = %v, %d; want %v", g, a, b, l, e, path)
	}
	if l, e := forest.Side(g, a); !slices.Equal(l, side) || e != ofSide {
		t.Fatalf("Side(%+v, %d) = %v, %d; want %v", g, a, l, e, side)
	}
}

// P7.1: labels, components and paths of all vertices, and none of other numbers.
func TestAnswers(t *testing.T) {
	for _, g := range append(samples(), small()...) {
		m := modelOf(g)
		want := m.labels(g)
		if l, e := forest.Labels(g); e != api.OK || text(l) != text(want) {
			t.Fatalf("Labels(%+v) = %v, %d; want %v", g, l, e, want)
		}
		for a := -1; a < 25; a++ {
			for b := -1; b < 25; b++ {
				wantAnswers(t, g, m, a, b)
			}
		}
		for _, id := range []int{math.MinInt, -1 << 32, 1 << 32, math.MaxInt} {
			wantAnswers(t, g, m, id, 0)
			wantAnswers(t, g, m, 0, id)
			wantAnswers(t, g, m, id, id)
		}
	}
}

// P7.1: the label of a vertex has the least edge upwards, whatever the order in which its neighbours are met, and the least root, however far it is.
func TestChoices(t *testing.T) {
	// 9 is reached over 5 and over 3, which are as deep; the edge from 5 is the lesser one. 0 is the root at the end of a tail.
	g := graphOf([]int{0, 3, 5, 9}, []api.Edge{{ID: 1, From: 9, To: 5}, {ID: 2, From: 9, To: 9}, {ID: 3, From: 3, To: 9}, {ID: 4, From: 3, To: 9}, {ID: 10, From: 3, To: 0}, {ID: 11, From: 0, To: 5}})
	// The root 2 is the last one on a line.
	h := graphOf([]int{2, 7, 8, 9}, []api.Edge{{ID: 0, From: 7, To: 8}, {ID: 1, From: 8, To: 9}, {ID: 2, From: 9, To: 2}})
	for _, c := range []struct {
		g    api.Graph
		want string
	}{
		{g, "[{ID:0 Label:[0 0 -1]} {ID:3 Label:[0 1 10]} {ID:5 Label:[0 1 11]} {ID:9 Label:[0 2 1]}]"},
		{h, "[{ID:2 Label:[2 0 -1]} {ID:7 Label:[2 3 0]} {ID:8 Label:[2 2 1]} {ID:9 Label:[2 1 2]}]"},
		{graphOf([]int{0, 23}, nil), "[{ID:0 Label:[0 0 -1]} {ID:23 Label:[23 0 -1]}]"},
		{graphOf([]int{0, 23}, []api.Edge{{ID: 39, From: 23, To: 0}}), "[{ID:0 Label:[0 0 -1]} {ID:23 Label:[0 1 39]}]"},
	} {
		if l, e := forest.Labels(c.g); e != api.OK || text(l) != c.want {
			t.Errorf("%+v, %d; want %s", l, e, c.want)
		}
	}
	if l, e := forest.Path(g, 9, 3); e != api.OK || !slices.Equal(l, []int{1, 11, 10}) {
		t.Error("a tree path goes by the tree, not by the shortest way:", l, e)
	}
}

// P7.1: tree paths: down from a vertex, up to it, and over a vertex that is no root.
func TestTreePaths(t *testing.T) {
	// 0 - 1 (20), 1 - 2 (21), 2 - 3 (22), 2 - 4 (23), 4 - 5 (24), 0 - 6 (25)
	g := graphOf([]int{0, 1, 2, 3, 4, 5, 6}, []api.Edge{{ID: 20, From: 0, To: 1}, {ID: 21, From: 2, To: 1}, {ID: 22, From: 2, To: 3}, {ID: 23, From: 4, To: 2}, {ID: 24, From: 4, To: 5}, {ID: 25, From: 0, To: 6}})
	for _, c := range []struct {
		a, b int
		want []int
	}{
		{0, 5, []int{20, 21, 23, 24}}, {5, 0, []int{24, 23, 21, 20}}, {3, 5, []int{22, 23, 24}}, {5, 3, []int{24, 23, 22}},
		{2, 5, []int{23, 24}}, {5, 2, []int{24, 23}}, {3, 6, []int{22, 21, 20, 25}}, {1, 1, nil}, {0, 0, nil}, {0, 1, []int{20}},
	} {
		if l, e := forest.Path(g, c.a, c.b); e != api.OK || !slices.Equal(l, c.want) {
			t.Errorf("from %d to %d: %v, %d; want %v", c.a, c.b, l, e, c.want)
		}
	}
}

// P7.1: nothing but errors for graphs that are not valid.
func TestGraphsThatAreNotValid(t *testing.T) {
	for _, g := range broken() {
		if l, e := forest.Labels(g); e != api.ErrForest || len(l) != 0 {
			t.Errorf("Labels(%+v) = %v, %d", g, l, e)
		}
		for a := -1; a < 26; a++ {
			for b := -1; b < 26; b++ {
				ok, e := forest.Connected(g, a, b)
				path, f := forest.Path(g, a, b)
				side, h := forest.Side(g, a)
				if ok || len(path) != 0 || len(side) != 0 || e != api.ErrForest || f != e || h != e {
					t.Fatalf("%d and %d of %+v: %v, %d; %v, %d; %v, %d", a, b, g, ok, e, path, f, side, h)
				}
				if forest.CheckPath(g, a, b, nil) || forest.CheckPath(g, a, b, []int{4}) || forest.CheckSide(g, a, b, []int{a}) || forest.CheckSide(g, a, b, []int{1, 2, 3}) {
					t.Fatalf("checks of %d and %d in %+v", a, b, g)
				}
			}
		}
	}
}
