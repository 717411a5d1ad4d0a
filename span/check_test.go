package span_test

import (
	"math"
	"math/rand"
	"slices"
	"testing"

	"clearway/api"
	"clearway/span"
)

// wantView fails the test if Good or Count of v differ from the reference. It returns whether v is good.
func wantView(t *testing.T, v api.View) bool {
	t.Helper()
	good, count := span.Good(v), span.Count(v)
	if good != isGood(v) || count != countOf(v) {
		t.Fatalf("%+v: %v, %d", v, good, count)
	}
	return good
}

// edgesAt returns the edges of the views below: two that are chosen in the round 0 (by 5 and 2, and by 3), two to other fragments with the same weight, one within the fragment, a loop, and a parallel one.
func edgesAt() []api.Edge {
	return []api.Edge{edge(4, 5, 2, -3), edge(7, 3, 5, 10), edge(9, 5, 6, 20), edge(12, 8, 5, 20), edge(13, 5, 10, 30), edge(20, 5, 5, -1000), edge(30, 2, 5, 5)}
}

// middle returns a good view of the vertex 5 (Labels[2]) over three rounds. In the round 1, its fragment, to which 2, 3 and 10 belong, hangs from 11, and leaves there.
func middle() api.View {
	return api.View{
		Vertex: api.Vertex{ID: 5},
		Edges:  edgesAt(),
		Labels: []api.Named{
			{ID: 2, Label: []int{2, 0, -1, 4, -3, 11, 1, 34, 35, 18, 1, 4, 4, -1, 0}},
			{ID: 3, Label: []int{3, 0, -1, 7, 10, 11, 3, 7, 35, 18, 1, 4, 7, -1, 0}},
			{ID: 5, Label: []int{5, 0, -1, 4, -3, 11, 2, 4, 35, 18, 1, 3, 9, -1, 0}},
			{ID: 6, Label: []int{6, 0, -1, 31, 15, 6, 0, -1, 9, 20, 1, 2, 31, -1, 0}},
			{ID: 8, Label: []int{8, 0, -1, 32, 1, 14, 1, 32, 36, 7, 1, 5, 36, -1, 0}},
			{ID: 10, Label: []int{10, 0, -1, 33, 2, 11, 4, 33, 35, 18, 1, 8, 33, -1, 0}},
		},
	}
}

// chief returns a good view of the vertex 5 (Labels[2]), which is the root in the round 1, and whose fragment chooses the edge 9.
func chief() api.View {
	return api.View{
		Vertex: api.Vertex{ID: 5},
		Edges:  edgesAt(),
		Labels: []api.Named{
			{ID: 2, Label: []int{2, 0, -1, 4, -3, 5, 1, 4, 9, 20, 1, 4, 4, -1, 0}},
			{ID: 3, Label: []int{3, 0, -1, 7, 10, 5, 1, 7, 9, 20, 1, 4, 7, -1, 0}},
			{ID: 5, Label: []int{5, 0, -1, 4, -3, 5, 0, -1, 9, 20, 1, 3, 9, -1, 0}},
			{ID: 6, Label: []int{6, 0, -1, 31, 15, 6, 0, -1, 37, 16, 1, 2, 31, -1, 0}},
			{ID: 8, Label: []int{8, 0, -1, 32, 1, 14, 1, 32, 36, 7, 1, 5, 36, -1, 0}},
			{ID: 10, Label: []int{10, 0, -1, 33, 2, 5, 4, 33, 9, 20, 1, 8, 33, -1, 0}},
		},
	}
}

// star returns a view of the vertex 5 (Labels[0]) over so many rounds, which is good if these are from 1 to 6: in each of them, it chooses an edge to another vertex.
func star(rounds int) api.View {
	v := api.View{Vertex: api.Vertex{ID: 5}, Labels: []api.Named{{ID: 5}}}
	for k := range rounds - 1 {
		v.Edges = append(v.Edges, edge(k, 5, 10+k, 3*k))
		v.Labels = append(v.Labels, api.Named{ID: 10 + k})
	}
	for i := range rounds {
		id, w := i, 3*i
		if i == rounds-1 {
			id, w = -1, 0
		}
		v.Labels[0].Label = append(v.Labels[0].Label, 5, 0, -1, id, w)
		for k := range rounds - 1 {
			b := []int{10 + k, 0, -1, 39, -900}
			if i > k {
				b = []int{5, 1, k, id, w}
			}
			v.Labels[k+1].Label = append(v.Labels[k+1].Label, b...)
		}
	}
	return v
}

// lonely returns the view of the vertex 5 without edges but a loop.
func lonely() api.View {
	v := star(1)
	v.Edges = []api.Edge{edge(20, 5, 5, 7)}
	return v
}

// variant is a view, what is changed in it, and whether it is good then.
type variant struct {
	from func() api.View
	f    func(v *api.View)
	good bool
}

// wantVariants fails the test if Good says something else of one of l.
func wantVariants(t *testing.T, l ...variant) {
	t.Helper()
	for i, c := range l {
		v := c.from()
		c.f(&v)
		if good := wantView(t, v); good != c.good {
			t.Errorf("%d: %+v: %v", i, v, good)
		}
	}
}

// set returns what writes n as the number k of the label i.
func set(i, k, n int) func(v *api.View) {
	return func(v *api.View) { v.Labels[i].Label[k] = n }
}

// setAll returns what writes n as the number k of all labels but those named.
func setAll(k, n int, but ...int) func(v *api.View) {
	return func(v *api.View) {
		for i := range v.Labels {
			if !slices.Contains(but, i) {
				v.Labels[i].Label[k] = n
			}
		}
	}
}

// all returns what does all of l.
func all(l ...func(v *api.View)) func(v *api.View) {
	return func(v *api.View) {
		for _, f := range l {
			f(v)
		}
	}
}

// without returns what removes the edge with the number id.
func without(id int) func(v *api.View) {
	return func(v *api.View) { v.Edges = slices.DeleteFunc(v.Edges, func(e api.Edge) bool { return e.ID == id }) }
}

// P10.1: what no condition looks at does not matter.
func TestNotLookedAt(t *testing.T) {
	for _, from := range []func() api.View{middle, chief, lonely} {
		wantVariants(t,
			variant{from, all(), true},
			variant{from, func(v *api.View) { v.Vertex.Side = 77 }, true},
			variant{from, func(v *api.View) { v.Depots = []int{9, 9, -4, 99, 5} }, true},
			variant{from, func(v *api.View) { v.Edges[0].Cap = -1 }, true},
			variant{from, func(v *api.View) {
				for i := range v.Edges {
					v.Edges[i].Directed = true
				}
			}, true},
			variant{from, func(v *api.View) {
				for i, e := range v.Edges {
					v.Edges[i].From, v.Edges[i].To = e.To, e.From
				}
			}, true},
			variant{from, func(v *api.View) { slices.Reverse(v.Labels) }, true},
			variant{from, func(v *api.View) {
				v.Labels = append(v.Labels, api.Named{ID: 9, Label: []int{math.MaxInt}}, api.Named{ID: -1}, api.Named{ID: 24, Label: make([]int, 99)})
			}, true},
		)
	}
	wantVariants(t,
		variant{middle, func(v *api.View) { v.Edges[5].Weight = 1000 }, true},
		// In the round 0, nothing but the root of the others counts here; later, also their edges, where these do not belong to the tree.
		variant{middle, all(set(4, 1, 7), set(4, 2, 7), set(4, 3, -1), set(4, 4, 0)), true},
		variant{middle, all(set(3, 1, -9), set(3, 2, -9), set(3, 3, -9), set(3, 4, -1001)), true},
		variant{middle, all(set(4, 6, 77), set(4, 7, 77), set(4, 8, -7), set(4, 9, 77)), true},
		variant{middle, all(set(5, 6, -1), set(5, 7, 77), set(5, 8, -1), set(5, 9, 0)), true},
		variant{middle, all(set(4, 11, 0), set(4, 12, -1), set(4, 13, 9), set(4, 14, 9)), true},
	)
}

// P10.1: labels from one to six rounds.
func TestRounds(t *testing.T) {
	for n := 1; n < 9; n++ {
		v := star(n)
		if wantView(t, v) != (n < 7) {
			t.Errorf("%+v", v)
		}
		want := 0
		if n < 7 {
			want = 3 * (n - 1) * (n - 2) / 2
		}
		if c := span.Count(v); c != want {
			t.Errorf("%d rounds: %d", n, c)
		}
	}
	wantVariants(t, variant{lonely, func(v *api.View) { v.Labels[0].Label = nil }, false})
	for k := 1; k < 10; k++ {
		wantVariants(t, variant{lonely, func(v *api.View) { v.Labels[0].Label = []int{5, 0, -1, -1, 0, 5, 0, -1, -1, 0}[:k] }, k == 5})
	}
}

// P10.1: the number of the vertex.
func TestNumberOfTheVertex(t *testing.T) {
	for _, id := range []int{-1, 24, math.MinInt, math.MaxInt, 1 << 32} {
		for _, edges := range [][]api.Edge{nil, {edge(0, id, id, 1)}, {edge(0, 3, id, 1)}} {
			for _, r := range []int{id, 3} {
				v := api.View{Vertex: api.Vertex{ID: id}, Edges: edges, Labels: []api.Named{{ID: id, Label: []int{r, 0, -1, -1, 0}}, {ID: 3, Label: []int{r, 0, -1, -1, 0}}}}
				if wantView(t, v) {
					t.Errorf("%+v", v)
				}
			}
		}
	}
	for _, id := range []int{0, 23} {
		if v := (api.View{Vertex: api.Vertex{ID: id}, Labels: []api.Named{{ID: id, Label: []int{id, 0, -1, -1, 0}}}}); !wantView(t, v) {
			t.Errorf("%+v", v)
		}
	}
	wantVariants(t, variant{middle, func(v *api.View) { v.Vertex.ID = 2 }, false}, variant{lonely, func(v *api.View) { v.Vertex.ID = 4 }, false})
}

// P10.1: the edges of a view, also its loops.
func TestEdgesOfViews(t *testing.T) {
	for i := range 7 {
		for _, n := range []int{-1, 40, math.MinInt, math.MaxInt} {
			wantVariants(t, variant{middle, func(v *api.View) { v.Edges[i].ID = n }, false})
		}
		for _, n := range []int{-1001, 1001, math.MinInt, math.MaxInt} {
			wantVariants(t, variant{middle, func(v *api.View) { v.Edges[i].Weight = n }, false})
		}
		for _, n := range []int{-1, 24, math.MinInt, math.MaxInt} {
			other := func(v *api.View) {
				if v.Edges[i].From == 5 {
					v.Edges[i].To = n
				} else {
					v.Edges[i].From = n
				}
				v.Labels = append(v.Labels, api.Named{ID: n, Label: v.Labels[4].Label})
			}
			wantVariants(t, variant{middle, other, false})
		}
		wantVariants(t,
			variant{middle, func(v *api.View) { v.Edges[i].From, v.Edges[i].To = 6, 8 }, false},
			variant{middle, func(v *api.View) { v.Edges[i].From, v.Edges[i].To = 6, 6 }, false},
			variant{middle, func(v *api.View) { v.Edges[i].From, v.Edges[i].To = -1, -1 }, false},
			variant{middle, func(v *api.View) { v.Edges = append(v.Edges[:i+1], v.Edges[i:]...) }, false},
		)
	}
	for i := range 6 {
		wantVariants(t, variant{middle, func(v *api.View) { v.Edges[i], v.Edges[i+1] = v.Edges[i+1], v.Edges[i] }, false})
	}
	wantVariants(t,
		variant{lonely, func(v *api.View) { v.Edges = []api.Edge{edge(0, 5, 5, -1000), edge(39, 5, 5, 1000)} }, true},
		variant{lonely, func(v *api.View) { v.Edges = nil }, true},
		variant{lonely, func(v *api.View) { v.Edges[0].To = 6 }, false},
		variant{middle, func(v *api.View) { v.Edges[5].ID = 29 }, true},
		variant{middle, func(v *api.View) { v.Edges[6].ID, v.Edges[6].Weight = 39, 1000 }, true},
	)
}

// P10.1: the labels that must be there: those of the vertex, and of all other ends, which are equally long.
func TestLabelsOfViews(t *testing.T) {
	for i := range 6 {
		wantVariants(t,
			variant{middle, func(v *api.View) { v.Labels = slices.Delete(v.Labels, i, i+1) }, false},
			variant{middle, func(v *api.View) { v.Labels[i].Label = v.Labels[i].Label[:14] }, false},
			variant{middle, func(v *api.View) { v.Labels[i].Label = v.Labels[i].Label[:10] }, false},
			variant{middle, func(v *api.View) { v.Labels[i].Label = v.Labels[i].Label[5:] }, false},
			variant{middle, func(v *api.View) { v.Labels[i].Label = append(v.Labels[i].Label, 0) }, false},
			variant{middle, func(v *api.View) { v.Labels[i].Label = append(v.Labels[i].Label, v.Labels[i].Label[10:]...) }, false},
			variant{middle, func(v *api.View) { v.Labels[i].Label = nil }, false},
			variant{middle, func(v *api.View) { v.Labels[i].ID = 23 }, false},
		)
	}
	wantVariants(t,
		variant{middle, func(v *api.View) { v.Labels = nil }, false},
		variant{lonely, func(v *api.View) { v.Labels = nil }, false},
		variant{lonely, func(v *api.View) { v.Labels[0].ID = 4 }, false},
		variant{middle, func(v *api.View) {
			for i := range v.Labels {
				v.Labels[i].Label = append(v.Labels[i].Label, 0)
			}
		}, false},
	)
}

// P10.1: of several labels of a vertex, the first one counts, whatever it has.
func TestSeveralLabels(t *testing.T) {
	for i := range 6 {
		again := func(l ...int) func(v *api.View) {
			return func(v *api.View) { v.Labels = append(v.Labels, api.Named{ID: v.Labels[i].ID, Label: l}) }
		}
		before := func(l ...int) func(v *api.View) {
			return func(v *api.View) {
				v.Labels = slices.Insert(v.Labels, 0, api.Named{ID: v.Labels[i].ID, Label: l})
			}
		}
		wantVariants(t,
			variant{middle, again(), true},
			variant{middle, again(math.MaxInt, 9), true},
			variant{middle, again(make([]int, 15)...), true},
			variant{middle, before(), false},
			variant{middle, before(1, 0, -1, -1, 0), false},
			variant{middle, before(make([]int, 15)...), false},
		)
	}
}

// P10.1: which numbers are possible, in the labels of all ends.
func TestPossibleNumbers(t *testing.T) {
	for i := range 6 {
		for k := range 15 {
			for _, n := range []int{-1<<60 - 1, 1<<60 + 1, math.MinInt, math.MaxInt} {
				v := middle()
				v.Labels[i].Label[k] = n
				if wantView(t, v) || span.Count(v) != 0 {
					t.Errorf("%+v", v)
				}
			}
			for _, n := range []int{-1 << 60, 1 << 60} {
				v := middle()
				v.Labels[i].Label[k] = n
				wantView(t, v)
			}
		}
	}
	// What does not count here may be as great as that.
	wantVariants(t,
		variant{middle, all(set(4, 6, 1<<60), set(4, 7, -1<<60), set(4, 8, 1<<60), set(4, 9, -1<<60)), true},
		variant{middle, all(set(4, 0, 1<<60), set(4, 5, -1<<60)), true},
	)
}

// P10.1: the roots and the depths: none is negative, and a depth is 0 exactly at the root.
func TestRootsAndDepths(t *testing.T) {
	fragment := func(n int) func(v *api.View) { return setAll(5, n, 3, 4) }
	wantVariants(t,
		variant{middle, fragment(0), true},
		variant{middle, fragment(77), true},
		variant{middle, fragment(-1), false},
		variant{middle, fragment(5), false},
		variant{middle, set(2, 0, 4), false},
		variant{middle, set(2, 0, -1), false},
		variant{chief, fragment(4), false},
		variant{middle, all(set(2, 6, 0), set(0, 6, -1), set(1, 6, 1)), false},
		variant{middle, all(set(2, 6, 0), set(2, 7, -1), set(0, 6, -1), set(1, 6, 1)), false},
		variant{middle, all(set(2, 6, -1), set(0, 6, -2), set(1, 6, 0)), false},
		variant{middle, all(set(2, 6, 1), set(0, 6, 0), set(1, 6, 2)), true},
		variant{middle, all(set(2, 6, 1<<59), set(0, 6, 1<<59-1), set(1, 6, 1<<59+1)), true},
		variant{chief, all(set(2, 6, 1), set(0, 6, 0), set(2, 7, 4), set(1, 6, 2)), false},
		variant{lonely, set(0, 0, 4), false},
		variant{lonely, set(0, 0, -1), false},
		variant{lonely, set(0, 1, 1), false},
		variant{lonely, set(0, 1, -1), false},
	)
	// In the round 0, there is no other depth, and no edge.
	for _, n := range []int{-1, 1, 2} {
		for _, id := range []int{-1, 4, 7, 9} {
			wantVariants(t,
				variant{middle, all(set(2, 1, n), set(2, 2, id)), false},
				variant{middle, all(set(2, 0, 3), set(2, 1, n), set(2, 2, id), set(1, 1, n-1)), false},
			)
		}
	}
}

// P10.1: the edge is -1 at the root, and elsewhere a tree edge to a vertex whose depth is less by 1.
func TestEdgesOfLabels(t *testing.T) {
	for n := -2; n < 42; n++ {
		wantVariants(t,
			variant{middle, set(2, 2, n), n == -1},
			variant{chief, set(2, 2, n), n == -1},
			variant{chief, set(2, 7, n), n == -1},
			variant{lonely, set(0, 2, n), n == -1},
			variant{middle, set(2, 7, n), n == 4},
			variant{middle, set(2, 12, n), n == 9},
			// Over the vertices that are as deep as 2 by other edges than those of the tree, it cannot hang: 30 is parallel, 13 within the fragment.
			variant{middle, all(set(5, 6, 1), set(2, 7, n)), n == 4},
			// Over 3, it can, if 2 and 3 change places.
			variant{middle, all(set(0, 6, 3), set(0, 7, 4), set(1, 6, 1), set(1, 7, 38), set(2, 7, n)), n == 7},
		)
	}
	// If all tree edges lead to vertices that hang from here, it cannot hang by one of them, nor by an edge that is none.
	below := all(set(0, 6, 3), set(0, 7, 4))
	wantVariants(t,
		variant{middle, below, false},
		variant{middle, all(below, set(2, 7, 7)), false},
		variant{middle, all(below, set(5, 6, 1), set(2, 7, 13)), false},
		variant{middle, all(below, set(3, 6, 1), set(2, 7, 9)), false},
		variant{chief, all(set(2, 6, 1), set(0, 6, 2), set(1, 6, 2), set(5, 6, 0), set(2, 7, 13)), false},
	)
	// A vertex by whose choice in this round or a later one it would hang.
	wantVariants(t,
		variant{middle, all(set(3, 5, 11), set(3, 6, 1), set(3, 8, 35), set(3, 9, 18), set(2, 7, 9), set(0, 6, 3), set(0, 7, 4)), false},
		variant{middle, all(set(4, 6, 1), set(2, 7, 12)), false},
		variant{middle, set(2, 7, 20), false},
	)
}

// P10.1: at tree edges, the root and the choice are the same, and the depths differ by 1.
func TestTreeEdges(t *testing.T) {
	for _, i := range []int{0, 1} { // the tree edges 4 and 7, before the rounds 1 and 2
		for _, k := range []int{5, 8, 9, 10, 13, 14} {
			for _, n := range []int{-1, 0, 1, 2, 11, 17, 18, 19, 34, 35, 36} {
				v := middle()
				same := v.Labels[i].Label[k] == n
				wantVariants(t, variant{middle, set(i, k, n), same})
			}
		}
		for n := -1; n < 6; n++ {
			wantVariants(t,
				variant{middle, set(i, 6, n), n == 1+2*i},
				variant{chief, set(i, 6, n), n == 1},
				variant{middle, set(i, 11, n), n == 4},
			)
		}
	}
	for n := -2; n < 42; n++ {
		wantVariants(t,
			variant{middle, set(1, 7, n), n == 7}, // 3 hangs from here
			variant{middle, set(0, 7, n), true},   // this hangs from 2, whatever the edge of 2 is
			variant{middle, set(0, 12, n), n == 4},
			variant{middle, set(1, 12, n), n == 7},
			variant{middle, set(3, 12, n), true},
			variant{chief, set(0, 7, n), n == 4},
			variant{chief, set(1, 7, n), n == 7},
		)
	}
	// The edge 9 is one before the round 2 because of 6, which is its own root in the round 1.
	wantVariants(t,
		variant{middle, set(3, 13, 9), false},
		variant{middle, set(3, 11, 3), false},
		variant{middle, set(3, 5, 7), false},
		variant{middle, set(3, 8, 31), false},
		variant{middle, all(set(3, 5, 7), set(2, 11, 5), set(2, 12, 4)), false},
		variant{middle, all(set(3, 5, 7), set(2, 11, 5), set(2, 12, 4), set(1, 11, 6)), true},
		// Then the edges 9 and 12 may have ends of any depth.
		variant{middle, all(set(3, 5, 7), set(2, 11, 5), set(2, 12, 4), set(1, 11, 6), set(3, 11, 77), set(3, 12, 9)), true},
	)
}

// P10.1: a vertex chooses an edge only where it is the root itself.
func TestWhoChooses(t *testing.T) {
	// If 2 and 5 do not choose 4, or 3 not 7, these are no tree edges, and 5 does not hang by them.
	later := all(set(1, 3, 0), set(1, 5, 3), set(1, 8, 7), func(v *api.View) { v.Edges[1].Weight = 25 })
	wantVariants(t,
		variant{middle, all(set(2, 3, 30), set(2, 4, -4)), false},
		variant{middle, all(set(0, 3, 34), set(0, 4, -5)), true},
		variant{middle, all(set(0, 3, 30), set(0, 4, 5)), false}, // then 30 is a tree edge, too
		variant{middle, all(set(0, 0, 77)), true},
		variant{middle, all(set(1, 3, 0), set(1, 6, 77), set(1, 11, 77)), true},
		variant{middle, all(set(1, 0, 8), set(1, 6, 77), set(1, 11, 77)), true},
		variant{middle, all(set(1, 6, 77), set(1, 11, 77)), false},
		// 3 would also choose 7 in the round 1, or in the last one, but that is too late for those rounds.
		variant{middle, all(later, set(1, 6, 77)), true},
		variant{middle, all(later, set(1, 6, 77), set(1, 11, 77)), false},
		variant{middle, all(set(1, 3, 0), set(1, 6, 77), set(1, 11, 77), set(1, 13, 7), setAll(10, 3)), true},
	)
}

// P10.1: edges that leave the fragment are not less than the one that is chosen, by their weights and numbers.
func TestLeavingEdges(t *testing.T) {
	chosen := func(id, weight int) func(v *api.View) { return all(setAll(8, id, 3, 4), setAll(9, weight, 3, 4)) }
	for _, c := range []struct {
		id, weight   int
		middle, head bool
	}{
		{9, 20, true, true}, {8, 20, true, false}, {0, 20, true, false}, {10, 20, false, false}, {12, 20, false, false}, {13, 20, false, false},
		{39, 19, true, false}, {1 << 60, 19, true, false}, {9, 19, true, false}, {9, 21, false, false}, {0, 21, false, false}, {0, 0, true, false},
		{39, -1 << 60, true, false}, {-1, 0, false, false}, {-1, 19, false, false}, {-1, 20, false, false}, {-1, -1 << 60, false, false}, {12, 19, true, false},
		{4, -3, true, false}, {30, 5, true, false}, {13, 30, false, false}, {7, 10, true, false}, {20, -1000, true, false},
	} {
		wantVariants(t, variant{middle, chosen(c.id, c.weight), c.middle}, variant{chief, chosen(c.id, c.weight), c.head})
	}
	// Without the edge 9, or if it does not leave, 12 is the least one.
	stays := all(set(3, 5, 11), set(3, 0, 3))
	for _, c := range []struct {
		id, weight   int
		middle, head bool
	}{{12, 20, true, true}, {13, 20, false, false}, {11, 20, true, false}, {12, 19, true, false}, {9, 20, true, false}, {12, 21, false, false}} {
		wantVariants(t,
			variant{middle, all(without(9), set(2, 12, 4), set(2, 11, 5), set(1, 11, 6), chosen(c.id, c.weight)), c.middle},
			variant{middle, all(stays, chosen(c.id, c.weight), set(3, 8, 0), set(2, 12, 4), set(2, 11, 5), set(1, 11, 6)), c.middle},
			variant{chief, all(without(9), chosen(c.id, c.weight), set(2, 12, 4), set(2, 11, 5), set(1, 11, 6), func(v *api.View) {
				if c.id == 12 && c.weight == 20 { // then it is a tree edge before the round 2
					v.Labels[4].Label[11], v.Labels[4].Label[12] = 6, 12
				}
			}), c.head},
		)
	}
}

// P10.1: in the round 0, each vertex is a root, and chooses the least of its edges.
func TestFirstChoice(t *testing.T) {
	for _, e := range edgesAt() {
		wantVariants(t, variant{chief, all(set(2, 3, e.ID), set(2, 4, e.Weight)), e.ID == 4})
	}
	wantVariants(t,
		variant{chief, set(2, 4, -4), false},
		variant{chief, set(2, 4, -2), false},
		variant{chief, set(2, 3, 3), false},
		variant{chief, set(2, 3, -1), false},
		variant{chief, all(set(2, 3, -1), set(2, 4, 0)), false},
		variant{chief, func(v *api.View) { v.Edges[6].Weight = -3 }, true},
		variant{chief, func(v *api.View) { v.Edges[6].Weight = -4 }, false},
		variant{chief, func(v *api.View) { v.Edges[0].Weight = -4 }, false},
		variant{chief, func(v *api.View) { v.Edges[4].Weight = -4 }, false},
		variant{chief, func(v *api.View) { v.Edges[1].Weight = -3 }, true},
	)
}

// P10.1: where there is a further round, something is chosen, even where no edge leaves.
func TestNotFinished(t *testing.T) {
	for _, b := range [][]int{{5, 0, -1, -1, 0}, {5, 0, -1, 0, 0}, {5, 0, -1, 20, 7}, {4, 0, -1, 20, 7}, {4, 1, 20, 20, 7}} {
		wantVariants(t, variant{lonely, func(v *api.View) { v.Labels[0].Label = append(slices.Clone(b), v.Labels[0].Label...) }, false})
	}
}

// P10.1: in the last round, nothing is chosen, and all have the same root, which is not greater.
func TestLastRound(t *testing.T) {
	for n := -2; n < 8; n++ {
		wantVariants(t,
			variant{middle, setAll(10, n), 0 <= n && n < 5},
			variant{middle, setAll(13, n), n == -1},
			variant{middle, setAll(14, n), n == 0},
			variant{lonely, set(0, 0, n), n == 5},
			variant{lonely, set(0, 3, n), n == -1},
			variant{lonely, set(0, 4, n), n == 0},
			variant{func() api.View { return star(4) }, setAll(15, n), n == 5},
			variant{func() api.View { return star(4) }, setAll(18, n), n == -1},
			variant{func() api.View { return star(4) }, setAll(19, n), n == 0},
		)
		for i := range 6 {
			wantVariants(t, variant{middle, set(i, 10, n), n == 1}, variant{chief, set(i, 10, n), n == 1})
		}
	}
}

// P10.1: Count, of views that are good and others.
func TestCount(t *testing.T) {
	for i, c := range []struct {
		from func() api.View
		f    func(v *api.View)
		want int
	}{
		{middle, all(), 0}, // 2 counts the edge 4, as it chooses it, too
		{middle, set(0, 0, 3), -3},
		{middle, set(0, 3, 5), -3},
		{middle, set(2, 0, 3), 0},
		{middle, set(2, 3, 7), 0}, // 3 chooses it, too
		{middle, all(set(2, 3, 7), set(1, 3, 6)), 10},
		{middle, set(2, 3, 13), 30},
		{middle, all(set(2, 3, 13), set(5, 3, 13)), 30}, // 10 is greater
		{middle, set(2, 3, 20), 0},                      // a loop
		{middle, set(2, 3, 39), 0},
		{middle, all(set(2, 5, 5), set(2, 8, 12)), 20},
		{middle, all(set(2, 10, 5), set(2, 13, 12)), 20},
		{middle, all(set(2, 3, 12), set(2, 5, 5), set(2, 8, 12), set(2, 10, 5), set(2, 13, 12)), 20}, // once
		{middle, all(set(2, 5, 5), set(2, 8, 12), set(2, 10, 5), set(2, 13, 13)), 50},
		{middle, all(set(2, 5, 4), set(2, 8, 12)), 0},
		{middle, all(set(0, 3, 0), set(0, 10, 2), set(0, 13, 4)), 0}, // 2 chooses it in the last round
		{middle, all(set(0, 3, 0), set(0, 10, 3), set(0, 13, 4)), -3},
		{middle, all(set(2, 5, 5), set(2, 8, 12), func(v *api.View) { v.Edges[3].Weight = 999 }), 999},
		{chief, all(), 20},
		{chief, all(set(3, 8, 9)), 20}, // 6 is greater
		{chief, all(set(0, 3, 0)), 17},
		{chief, func(v *api.View) { v.Edges[2].Weight = -1000 }, -1000},
		{chief, func(v *api.View) { v.Edges[2].Weight = -1001 }, 0},
		{chief, func(v *api.View) { v.Edges[6].ID = 40 }, 0},
		{chief, func(v *api.View) { v.Edges[5].From, v.Edges[5].To = 6, 6 }, 0},
		{chief, func(v *api.View) { v.Labels = v.Labels[1:] }, 0},
		{chief, func(v *api.View) { v.Labels[5].Label = v.Labels[5].Label[:10] }, 0},
		{chief, set(4, 0, 1<<60+1), 0},
		{chief, set(4, 0, 1<<60), 20},
		{lonely, all(set(0, 3, 20)), 0},
		{lonely, all(), 0},
	} {
		v := c.from()
		c.f(&v)
		if n := span.Count(v); n != c.want || n != countOf(v) {
			t.Errorf("%d: %d", i, n)
		}
	}
}

// smallViews calls f with views of the vertex 1 between 0 and 2, over two rounds, and with all that the vertices may choose first, and with all last blocks of small numbers.
func smallViews(f func(v api.View)) {
	first := [][]int{{3, 7}, {5, 7}, {9, 7}}
	var last [][]int
	for _, r := range []int{0, 1, 2} {
		for _, d := range []int{0, 1, 2} {
			for _, e := range []int{-1, 3, 5} {
				last = append(last, []int{r, d, e, -1, 0})
			}
		}
	}
	v := api.View{Vertex: api.Vertex{ID: 1}, Edges: []api.Edge{edge(3, 0, 1, 7), edge(5, 2, 1, 7)}}
	for id := range 3 {
		v.Labels = append(v.Labels, api.Named{ID: id, Label: []int{id, 0, -1, 0, 0, 0, 0, 0, 0, 0}})
	}
	var fill func(id int)
	fill = func(id int) {
		if id == 3 {
			f(v)
			return
		}
		for _, c := range first {
			copy(v.Labels[id].Label[3:], c)
			for _, b := range last {
				copy(v.Labels[id].Label[5:], b)
				fill(id + 1)
			}
		}
	}
	fill(0)
}

// P10.1: all small views.
func TestSmallViews(t *testing.T) {
	good := 0
	smallViews(func(v api.View) {
		if wantView(t, v) {
			good++
		}
	})
	if good < 100 {
		t.Error("good:", good)
	}
}

// spoil changes something in v; now and then nothing that matters.
func spoil(r *rand.Rand, v *api.View) {
	n := []int{-1, 0, 1, 2, 3, 22, 23, 24, 39, 40, -1001, 1001, -1<<60 - 1, 1<<60 + 1, math.MinInt, math.MaxInt}[r.Intn(16)]
	if len(v.Edges) > 0 && r.Intn(3) == 0 {
		e := &v.Edges[r.Intn(len(v.Edges))]
		switch r.Intn(8) {
		case 0:
			e.ID = n
		case 1:
			e.From, e.To = e.To, e.From
		case 2:
			e.To = n
		case 3:
			e.Weight = n
		case 4:
			e.Directed, e.Cap = !e.Directed, n
		case 5:
			v.Edges = slices.Delete(v.Edges, 0, 1)
		case 6:
			e.ID++
		case 7:
			e.Weight += r.Intn(3) - 1
		}
		return
	}
	if len(v.Labels) == 0 || r.Intn(12) == 0 {
		v.Vertex.Side, v.Depots = n, []int{n}
		return
	}
	i := r.Intn(len(v.Labels))
	x := &v.Labels[i]
	switch k := r.Intn(20); k {
	case 0:
		v.Labels = slices.Delete(v.Labels, i, i+1)
	case 1:
		v.Labels = slices.Insert(v.Labels, i, api.Named{ID: r.Intn(24), Label: []int{0, 1, 2, -1, 0}[:r.Intn(2)*5]})
	case 2:
		v.Labels = append(v.Labels, api.Named{ID: x.ID, Label: []int{n}})
	case 3:
		x.ID = n
	case 4:
		v.Vertex.ID = n
	case 5:
		x.Label = append(x.Label, 5, 0, -1, -1, 0)
	case 6:
		x.Label = x.Label[:max(len(x.Label)/5-r.Intn(2), 0)*5]
	default:
		if k = r.Intn(30); k < len(x.Label) {
			x.Label[k] += []int{-1, 1, n}[r.Intn(3)]
		}
	}
}

// P10.1: views with something changed are good exactly if the conditions hold, one by one.
func TestSpoiledViews(t *testing.T) {
	r := rand.New(rand.NewSource(2))
	good := 0
	for range 1500 {
		g := randomGraph(r)
		l := modelOf(g)
		for range 40 {
			v := viewOf(g, l, g.Vertices[r.Intn(len(g.Vertices))].ID)
			for i, x := range v.Labels {
				v.Labels[i].Label = slices.Clone(x.Label)
			}
			for range 1 + r.Intn(3) {
				spoil(r, &v)
			}
			if wantView(t, v) {
				good++
			}
		}
	}
	if good < 5000 || good > 50000 {
		t.Error("good:", good)
	}
}
