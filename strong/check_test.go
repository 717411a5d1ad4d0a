package strong_test

import (
	"math"
	"math/rand"
	"slices"
	"testing"

	"clearway/api"
	"clearway/strong"
)

// wantView fails the test if Good or Count of v differ from the reference. It returns whether v is good.
func wantView(t *testing.T, v api.View) bool {
	t.Helper()
	good, count := strong.Good(v), strong.Count(v)
	if good != isGood(v) || count != countOf(v) {
		t.Fatalf("%+v: %v, %d", v, good, count)
	}
	return good
}

// middle returns a good view of the vertex 5, whose root is 1: with arcs to and from vertices of its component (0 to 4 of Labels: 2, 3, 4, 6 after itself, 5), and of others (8 and 10), and a loop. Its own label is Labels[3].
func middle() api.View {
	return api.View{
		Vertex: api.Vertex{ID: 5},
		Edges: []api.Edge{
			to(4, 2, 5), both(7, 5, 3), to(9, 5, 6), to(12, 8, 5), to(13, 5, 10), both(20, 5, 5), to(30, 4, 5), to(31, 5, 4), to(38, 2, 5), both(39, 3, 5),
		},
		Labels: []api.Named{
			{ID: 2, Label: []int{1, 1, 30, 9, 31, 3, 6}},
			{ID: 3, Label: []int{1, 2, 32, 1, 33, 3, 5}},
			{ID: 4, Label: []int{1, 7, 34, 2, 35, 3, 4}},
			{ID: 5, Label: []int{1, 2, 4, 2, 7, 3, 0}},
			{ID: 6, Label: []int{1, 3, 9, 4, 36, 3, 1}},
			{ID: 8, Label: []int{8, 0, -1, 0, -1, 2, 0}},
			{ID: 10, Label: []int{9, 1, 37, 1, 38, 20, 3}},
		},
	}
}

// top returns a good view of the root 5, with the rank 0: with arcs to and from a vertex of its component, and to one of another.
func top() api.View {
	return api.View{
		Vertex: api.Vertex{ID: 5},
		Edges:  []api.Edge{to(3, 5, 7), to(4, 7, 5), to(8, 5, 9), both(9, 5, 5)},
		Labels: []api.Named{
			{ID: 5, Label: []int{5, 0, -1, 0, -1, 0, 0}},
			{ID: 7, Label: []int{5, 1, 3, 1, 4, 0, 0}},
			{ID: 9, Label: []int{9, 0, -1, 0, -1, 1, 0}},
		},
	}
}

// variant is a view, what is changed in it, and whether it is good then.
type variant struct {
	from func() api.View
	f    func(v *api.View)
	good bool
}

// wantVariants fails the test if Good says something else of one of l.
func wantVariants(t *testing.T, l ...variant) {
	t.Helper()
	for i, c := range l {
		v := c.from()
		c.f(&v)
		if good := wantView(t, v); good != c.good {
			t.Errorf("%d: %+v: %v", i, v, good)
		}
	}
}

// set returns what writes n as the number k of the label i.
func set(i, k, n int) func(v *api.View) {
	return func(v *api.View) { v.Labels[i].Label[k] = n }
}

// all returns what does all of l.
func all(l ...func(v *api.View)) func(v *api.View) {
	return func(v *api.View) {
		for _, f := range l {
			f(v)
		}
	}
}

// without returns what removes the edge i.
func without(i int) func(v *api.View) {
	return func(v *api.View) { v.Edges = slices.Delete(v.Edges, i, i+1) }
}

// P9.1: what no condition looks at does not matter.
func TestNotLookedAt(t *testing.T) {
	wantVariants(t,
		variant{middle, all(), true},
		variant{top, all(), true},
		variant{middle, func(v *api.View) { v.Vertex.Side = 77 }, true},
		variant{middle, func(v *api.View) { v.Depots = []int{9, 9, -4, 99, 5} }, true},
		variant{middle, func(v *api.View) { v.Edges[0].Cap = -1; v.Edges[1].Weight = math.MaxInt }, true},
		variant{middle, func(v *api.View) { slices.Reverse(v.Edges) }, true},
		variant{middle, func(v *api.View) { slices.Reverse(v.Labels) }, true},
		variant{middle, func(v *api.View) { v.Edges = append(v.Edges, v.Edges...) }, true},
		variant{middle, func(v *api.View) { v.Edges = append(v.Edges, to(0, 23, 22), both(1, 2, 3), to(2, 1, 1)) }, true},
		variant{middle, func(v *api.View) { v.Edges[5].Directed = true }, true},
		variant{middle, func(v *api.View) {
			v.Labels = append(v.Labels, api.Named{ID: 1, Label: []int{9}}, api.Named{ID: -1}, api.Named{ID: 24, Label: []int{0, 0, 0, 0, 0, 0, 0}})
		}, true},
		variant{middle, all(set(0, 2, 5), set(0, 4, 5), set(0, 3, 23), set(0, 6, 0)), true},
		variant{middle, all(set(6, 0, 22), set(6, 1, 22), set(6, 2, 22), set(6, 3, 22), set(6, 4, 22), set(6, 5, 0), set(6, 6, 22)), true},
	)
}

// P9.1: the edges of a view, also of those that are at other vertices.
func TestEdgesOfViews(t *testing.T) {
	for _, n := range []int{-1, 24, math.MinInt, math.MaxInt} {
		wantVariants(t,
			variant{middle, func(v *api.View) { v.Edges = append(v.Edges, both(0, 23, n)) }, false},
			variant{middle, func(v *api.View) { v.Edges = append(v.Edges, to(0, n, 23)) }, false},
			variant{middle, func(v *api.View) {
				v.Edges = append(v.Edges, to(0, 5, n))
				v.Labels = append(v.Labels, api.Named{ID: n, Label: v.Labels[0].Label})
			}, false},
		)
	}
	for _, n := range []int{-1, 40, math.MinInt, math.MaxInt} {
		wantVariants(t,
			variant{middle, func(v *api.View) { v.Edges = append(v.Edges, both(n, 23, 22)) }, false},
			variant{middle, func(v *api.View) { v.Edges[8].ID = n }, false},
			variant{top, func(v *api.View) { v.Edges[3].ID = n }, false},
		)
	}
	wantVariants(t,
		variant{middle, func(v *api.View) { v.Edges = append(v.Edges, both(0, 0, 23), both(39, 23, 0)) }, true},
		variant{top, func(v *api.View) { v.Edges = nil }, true},
		variant{middle, func(v *api.View) { v.Edges = nil }, false},
	)
}

// P9.1: the labels that must be there: those of the vertex, and of all neighbours, wherever the arcs lead.
func TestLabelsOfViews(t *testing.T) {
	for i := range 7 {
		wantVariants(t,
			variant{middle, func(v *api.View) { v.Labels = slices.Delete(v.Labels, i, i+1) }, false},
			variant{middle, func(v *api.View) { v.Labels[i].Label = v.Labels[i].Label[:6] }, false},
			variant{middle, func(v *api.View) { v.Labels[i].Label = append(v.Labels[i].Label, 0) }, false},
			variant{middle, func(v *api.View) { v.Labels[i].Label = nil }, false},
			variant{middle, func(v *api.View) { v.Labels[i].ID = 23 }, false},
		)
	}
	wantVariants(t,
		variant{middle, func(v *api.View) { v.Labels = nil }, false},
		variant{top, func(v *api.View) { v.Edges, v.Labels = nil, v.Labels[:1] }, true},
		variant{top, func(v *api.View) { v.Edges, v.Labels = nil, v.Labels[1:] }, false},
		variant{top, func(v *api.View) { v.Edges, v.Labels = nil, nil }, false},
	)
}

// P9.1: of several labels of a vertex, the first one counts, whatever it has.
func TestSeveralLabels(t *testing.T) {
	for i := range 7 {
		wantVariants(t,
			variant{middle, func(v *api.View) { v.Labels = append(v.Labels, api.Named{ID: v.Labels[i].ID, Label: []int{9, 9}}) }, true},
			variant{middle, func(v *api.View) {
				v.Labels = append(v.Labels, api.Named{ID: v.Labels[i].ID, Label: []int{1, 0, 0, 0, 0, 9, 9}})
			}, true},
			variant{middle, func(v *api.View) { v.Labels = slices.Insert(v.Labels, 0, api.Named{ID: v.Labels[i].ID}) }, false},
			variant{middle, func(v *api.View) {
				v.Labels = slices.Insert(v.Labels, i, api.Named{ID: v.Labels[i].ID, Label: []int{0, 0, 0, 0, 0, 0, 24}})
			}, false},
		)
	}
	wantVariants(t, variant{middle, func(v *api.View) {
		v.Labels = slices.Insert(v.Labels, 3, api.Named{ID: 5, Label: []int{1, 2, 38, 2, 7, 3, 0}})
	}, false})
}

// P9.1: which numbers are possible, in the labels of all neighbours.
func TestPossibleLabels(t *testing.T) {
	for i := range 7 {
		for k, most := range []int{23, 23, 39, 23, 39, 23, 23} {
			least := 0
			if most == 39 {
				least = -1
			}
			for _, n := range []int{least - 1, most + 1, math.MinInt, math.MaxInt, 1 << 32} {
				wantVariants(t, variant{middle, set(i, k, n), false})
			}
			for _, n := range []int{least, most} {
				v := middle()
				v.Labels[i].Label[k] = n
				wantView(t, v)
			}
		}
	}
	for k, most := range []int{23, 23, 39, 23, 39, 23, 23} {
		wantVariants(t, variant{middle, set(6, k, most), true}, variant{middle, set(6, k, 0), true})
	}
	wantVariants(t, variant{middle, all(set(6, 2, -1), set(6, 4, -1)), true})
}

// P9.1: the roots.
func TestRoots(t *testing.T) {
	for n, good := range map[int]bool{0: true, 4: true, 5: false, 6: false, 23: false} {
		wantVariants(t, variant{middle, all(set(0, 0, n), set(1, 0, n), set(2, 0, n), set(3, 0, n), set(4, 0, n)), good})
	}
	wantVariants(t,
		variant{middle, set(3, 0, 0), false},
		variant{top, all(set(0, 0, 4), set(1, 0, 4)), false},
		variant{top, all(set(0, 0, 6), set(1, 0, 6)), false},
		variant{top, set(1, 0, 7), false},
		variant{top, all(set(1, 0, 7), without(1)), true},
		variant{top, all(set(1, 0, 0), without(1)), true},
	)
}

// P9.1: at a root, both depths are 0, and both edges -1.
func TestRootsAreTheBegin(t *testing.T) {
	wantVariants(t,
		variant{top, set(0, 1, 1), false},
		variant{top, set(0, 1, 2), false},
		variant{top, set(0, 2, 4), false},
		variant{top, set(0, 2, 0), false},
		variant{top, set(0, 3, 1), false},
		variant{top, set(0, 3, 2), false},
		variant{top, set(0, 4, 3), false},
		variant{top, set(0, 4, 0), false},
		variant{top, all(set(0, 1, 2), set(0, 2, 4), set(0, 3, 2), set(0, 4, 3)), false},
		// The depths of others do not matter here: they find out themselves.
		variant{top, all(set(1, 1, 0), set(1, 3, 0)), true},
		variant{top, all(set(1, 1, 23), set(1, 3, 23)), true},
	)
}

// P9.1: the depths are at most 1 more than those of the vertices before, and behind, and exactly 1 more than one.
func TestDepths(t *testing.T) {
	for _, n := range []int{0, 1, 3, 4, 8, 23} {
		wantVariants(t,
			variant{middle, set(3, 1, n), false},
			variant{middle, set(3, 3, n), false},
		)
	}
	wantVariants(t,
		// Out: 2 leads here, 3 does, too, and 4; but not 6, nor 8 and 10, which have another root.
		variant{middle, set(0, 1, 0), false},
		variant{middle, all(set(0, 1, 0), set(3, 1, 1)), true},
		variant{middle, set(0, 1, 2), false},
		variant{middle, all(set(0, 1, 2), set(3, 1, 3)), true},
		variant{middle, all(set(0, 1, 2), set(3, 1, 3), set(2, 1, 1)), false},
		variant{middle, set(1, 1, 0), false},
		variant{middle, set(2, 1, 0), false},
		variant{middle, set(4, 1, 0), true},
		variant{middle, set(5, 1, 0), true},
		variant{middle, set(5, 1, 1), true},
		variant{middle, set(6, 1, 0), true},
		// In: this leads to 3, to 4 and to 6; but not to 2, nor to others of the same root.
		variant{middle, set(1, 3, 0), false},
		variant{middle, all(set(1, 3, 0), set(3, 3, 1)), true},
		variant{middle, set(2, 3, 0), false},
		variant{middle, set(4, 3, 0), false},
		variant{middle, set(0, 3, 0), true},
		variant{middle, set(5, 3, 0), true},
		variant{middle, set(6, 3, 0), true},
		variant{middle, set(6, 3, 1), true},
		// Nobody is left before it, or behind it.
		variant{middle, all(without(9), without(8), without(6), without(1), without(0), set(3, 2, -1)), false},
		variant{middle, all(without(9), without(8), without(6), without(1), without(0), set(3, 1, 0), set(3, 2, -1)), false},
		variant{middle, all(without(9), without(7), without(2), without(1), set(3, 4, -1)), false},
		variant{middle, all(without(9), without(7), without(2), without(1), set(3, 3, 0), set(3, 4, -1)), false},
	)
}

// P9.1: depths of 0 are not allowed away from the root, not even if nobody is nearer to it.
func TestDepthsOfOthers(t *testing.T) {
	wantVariants(t,
		variant{middle, all(set(3, 1, 0), set(3, 2, -1)), false},
		variant{middle, all(set(3, 3, 0), set(3, 4, -1)), false},
		variant{middle, all(set(3, 1, 0), set(3, 2, -1), set(3, 3, 0), set(3, 4, -1)), false},
		// A depth of 24 would be due here.
		variant{middle, all(set(0, 1, 23), set(1, 1, 23), set(2, 1, 23), set(3, 1, 23)), false},
		variant{middle, all(set(0, 1, 22), set(1, 1, 22), set(2, 1, 23), set(3, 1, 23)), true},
		variant{middle, all(set(1, 3, 23), set(2, 3, 23), set(4, 3, 23), set(3, 3, 23)), false},
		variant{middle, all(set(1, 3, 22), set(2, 3, 23), set(4, 3, 23), set(3, 3, 23)), true},
	)
}

// P9.1: the edges of the label are the least ones of those from, or to, vertices that are nearer to the root.
func TestEdgesOfLabels(t *testing.T) {
	for n := -1; n < 40; n++ {
		wantVariants(t,
			variant{middle, set(3, 2, n), n == 4},
			variant{middle, set(3, 4, n), n == 7},
			variant{middle, all(without(0), set(3, 2, n)), n == 38},
			variant{middle, all(without(1), set(3, 4, n)), n == 39},
			variant{middle, all(set(1, 1, 1), set(3, 2, n)), n == 4},
			variant{middle, all(without(0), set(1, 1, 1), set(3, 2, n)), n == 7},
			variant{middle, all(set(0, 1, 3), set(1, 1, 1), set(3, 2, n)), n == 7},
			variant{middle, all(set(0, 1, 3), set(1, 1, 3), set(2, 1, 1), set(3, 2, n)), n == 30},
			variant{middle, all(set(1, 3, 3), set(4, 3, 1), set(3, 4, n)), n == 9},
			variant{middle, all(set(1, 3, 3), set(2, 3, 1), set(3, 4, n)), n == 31},
			variant{middle, all(set(2, 3, 1), set(4, 3, 1), set(3, 4, n)), n == 7},
		)
	}
}

// P9.1: the rank is that of all neighbours with the same root, whatever the arcs to them.
func TestRanksInside(t *testing.T) {
	for _, i := range []int{0, 1, 2, 4} {
		wantVariants(t, variant{middle, set(i, 5, 2), false}, variant{middle, set(i, 5, 4), false})
	}
	for n := range 24 {
		same := all(set(0, 5, n), set(1, 5, n), set(2, 5, n), set(3, 5, n), set(4, 5, n))
		wantVariants(t,
			variant{middle, same, n == 3},
			variant{middle, all(same, set(5, 5, n-1)), n > 0},
			variant{middle, all(same, set(3, 6, 5)), n > 3},
		)
	}
	wantVariants(t, variant{top, set(1, 5, 1), false}, variant{top, set(0, 5, 1), false})
}

// P9.1: arcs from other components come from lesser ranks; where arcs lead to others, their ranks do not matter here.
func TestRanksOutside(t *testing.T) {
	wantVariants(t,
		variant{middle, set(5, 5, 3), false},
		variant{middle, set(5, 5, 4), false},
		variant{middle, set(5, 5, 23), false},
		variant{middle, set(6, 5, 3), true},
		variant{middle, set(6, 5, 0), true},
		variant{middle, all(set(6, 5, 3), func(v *api.View) { v.Edges[4].Directed = false }), false},
		variant{middle, all(set(6, 5, 0), func(v *api.View) { v.Edges[4].Directed = false }), true},
		variant{top, set(2, 5, 0), true},
		variant{top, func(v *api.View) { v.Edges[2] = to(8, 9, 5) }, false},
		variant{top, all(set(2, 5, 0), func(v *api.View) { v.Edges[2] = to(8, 9, 5) }), false},
		variant{top, all(set(2, 5, 0), set(0, 5, 1), set(1, 5, 1), func(v *api.View) { v.Edges[2] = to(8, 9, 5) }), true},
	)
}

// P9.1: the witness distance is 0 at rank 0, or where an arc leads from another component of the rank before.
func TestWitnessesAtTheEntry(t *testing.T) {
	for _, n := range []int{1, 2, 23} {
		wantVariants(t, variant{middle, set(3, 6, n), false}, variant{top, set(0, 6, n), false})
	}
	wantVariants(t,
		variant{top, set(1, 6, 9), true},
		variant{top, all(set(0, 5, 1), set(1, 5, 1)), false},
		variant{top, all(set(0, 5, 1), set(1, 5, 1), set(0, 6, 1)), true},
		// From 8, an arc leads here; to 10, one leads away.
		variant{middle, set(5, 5, 1), false},
		variant{middle, all(set(5, 5, 1), set(6, 5, 2)), false},
		variant{middle, all(set(5, 5, 1), set(6, 5, 2), func(v *api.View) { v.Edges[4].Directed = false }), true},
		variant{middle, set(5, 6, 9), true},
	)
}

// P9.1: elsewhere, the witness distance is 1 more than the least one before it in the component.
func TestWitnessesFurtherAway(t *testing.T) {
	// Now no arc leads here from the rank 2. Those from 2, 3 and 4 do, where it is 6, 5 and 4, but not that from 6, where it is 1.
	away := set(5, 5, 1)
	for n := range 24 {
		wantVariants(t,
			variant{middle, all(away, set(3, 6, n)), n == 5},
			variant{middle, all(away, set(0, 6, 0), set(3, 6, n)), n == 1},
			variant{middle, all(away, set(1, 6, 2), set(3, 6, n)), n == 3},
			variant{middle, all(away, set(2, 6, 11), set(3, 6, n)), n == 6},
			variant{middle, all(away, set(0, 6, 22), set(1, 6, 23), set(2, 6, 22), set(3, 6, n)), n == 23},
			variant{middle, all(away, set(0, 6, 23), set(1, 6, 23), set(2, 6, 23), set(3, 6, n)), false},
			variant{middle, all(away, set(5, 6, 0), set(6, 6, 0), set(3, 6, n)), n == 5},
			variant{middle, all(without(3), set(3, 6, n)), n == 5},
			variant{alone, set(0, 6, n), false},
		)
	}
}

// alone returns a view of a root of the rank 2, to which no arc leads from its component, and one from another that has the rank 0.
func alone() api.View {
	return api.View{
		Vertex: api.Vertex{ID: 5},
		Edges:  []api.Edge{to(3, 5, 7), to(8, 9, 5)},
		Labels: []api.Named{
			{ID: 5, Label: []int{5, 0, -1, 0, -1, 2, 0}},
			{ID: 7, Label: []int{5, 1, 3, 1, 4, 2, 0}},
			{ID: 9, Label: []int{9, 0, -1, 0, -1, 0, 0}},
		},
	}
}

// renumber gives the root 5 of the view the number id everywhere but as a root, which becomes r.
func renumber(id, r int) func(v *api.View) {
	return func(v *api.View) {
		v.Vertex.ID, v.Labels[0].ID = id, id
		v.Labels[0].Label[0], v.Labels[1].Label[0] = r, r
		for i, e := range v.Edges {
			if e.From == 5 {
				v.Edges[i].From = id
			}
			if e.To == 5 {
				v.Edges[i].To = id
			}
		}
	}
}

// P9.1: the number of the vertex.
func TestNumberOfTheVertex(t *testing.T) {
	noEdges := func(v *api.View) { v.Edges = nil }
	for _, id := range []int{-1, 24, math.MinInt, math.MaxInt, 1 << 32} {
		for _, r := range []int{0, 23, id} {
			wantVariants(t, variant{top, renumber(id, r), false}, variant{top, all(renumber(id, r), noEdges), false})
		}
	}
	wantVariants(t,
		variant{top, renumber(0, 0), true},
		variant{top, renumber(23, 23), true},
		variant{top, all(renumber(0, 0), noEdges), true},
		variant{top, all(renumber(23, 23), noEdges), true},
		// The same edges and labels are also good views of 7 and 9, as these see them; but not of others.
		variant{top, func(v *api.View) { v.Vertex.ID = 7 }, true},
		variant{top, func(v *api.View) { v.Vertex.ID = 9 }, true},
		variant{top, func(v *api.View) { v.Vertex.ID = 8 }, false},
		variant{middle, func(v *api.View) { v.Vertex.ID = 2 }, false},
	)
}

// P9.1: roots are counted, whatever else is in the view.
func TestCount(t *testing.T) {
	for i, c := range []struct {
		id   int
		l    []api.Named
		want int
	}{
		{3, []api.Named{{ID: 3, Label: []int{3, 0, -1, 0, -1, 0, 0}}}, 1},
		{3, []api.Named{{ID: 3, Label: []int{3, 7, 7, 7, 7, 7, 7}}}, 1},
		{3, []api.Named{{ID: 3, Label: []int{3}}}, 1},
		{3, []api.Named{{ID: 3, Label: []int{3, -9, 99, 0, 0, 0, 0, 0, 0}}}, 1},
		{3, []api.Named{{ID: 4, Label: []int{4, 0, -1, 0, -1, 0, 0}}, {ID: 3, Label: []int{3, 0, -1, 0, -1, 0, 0}}}, 1},
		{3, []api.Named{{ID: 3, Label: []int{0, 3, 3, 3, 3, 3, 3}}}, 0},
		{3, []api.Named{{ID: 4, Label: []int{3, 0, -1, 0, -1, 0, 0}}}, 0},
		{3, []api.Named{{ID: 4, Label: []int{4, 0, -1, 0, -1, 0, 0}}}, 0},
		{3, []api.Named{{ID: 3}}, 0},
		{3, nil, 0},
		{0, []api.Named{{ID: 0}}, 0},
		{0, []api.Named{{ID: 0, Label: []int{0}}}, 1},
		{3, []api.Named{{ID: 3, Label: []int{3}}, {ID: 3, Label: []int{1}}}, 1},
		{3, []api.Named{{ID: 3, Label: []int{1}}, {ID: 3, Label: []int{3}}}, 0},
		{3, []api.Named{{ID: 3}, {ID: 3, Label: []int{3}}}, 0},
		{-7, []api.Named{{ID: -7, Label: []int{-7}}}, 1},
		{math.MaxInt, []api.Named{{ID: math.MaxInt, Label: []int{math.MaxInt}}}, 1},
	} {
		v := api.View{Vertex: api.Vertex{ID: c.id}, Edges: []api.Edge{{ID: 90}}, Labels: c.l}
		if n := strong.Count(v); n != c.want || n != countOf(v) {
			t.Errorf("%d: %d", i, n)
		}
	}
}

// spoil changes something in v; now and then nothing that matters.
func spoil(r *rand.Rand, v *api.View) {
	n := []int{-1, 0, 1, 2, 3, 22, 23, 24, 39, 40, math.MinInt, math.MaxInt}[r.Intn(12)]
	if len(v.Edges) > 0 && r.Intn(3) == 0 {
		e := &v.Edges[r.Intn(len(v.Edges))]
		switch r.Intn(7) {
		case 0:
			e.ID = n
		case 1:
			e.From, e.To = e.To, e.From
		case 2:
			e.To = n
		case 3:
			e.Weight, e.Cap = n, n
		case 4:
			e.Directed = !e.Directed
		case 5:
			v.Edges = slices.Delete(v.Edges, 0, 1)
		case 6:
			e.ID = r.Intn(40)
		}
		return
	}
	if len(v.Labels) == 0 || r.Intn(12) == 0 {
		v.Vertex.Side, v.Depots = n, []int{n}
		return
	}
	i := r.Intn(len(v.Labels))
	x := &v.Labels[i]
	switch k := r.Intn(14); k {
	case 0:
		v.Labels = slices.Delete(v.Labels, i, i+1)
	case 1:
		v.Labels = slices.Insert(v.Labels, i, api.Named{ID: r.Intn(24), Label: []int{0, 1, 2, 1, 2, r.Intn(3), 1}[:r.Intn(2)*7]})
	case 2:
		v.Labels = append(v.Labels, api.Named{ID: x.ID, Label: []int{n}})
	case 3:
		x.ID = n
	case 4:
		v.Vertex.ID = n
	default:
		if len(x.Label) == 7 {
			x.Label[k%7] += []int{-1, 1, n}[r.Intn(3)]
		}
	}
}

// P9.1: views with something changed are good exactly if the conditions hold, one by one.
func TestSpoiledViews(t *testing.T) {
	r := rand.New(rand.NewSource(2))
	good := 0
	for range 2000 {
		g := randomGraph(r)
		l := modelOf(g).labels()
		for range 30 {
			v := viewOf(g, l, g.Vertices[r.Intn(len(g.Vertices))].ID)
			for i, x := range v.Labels {
				v.Labels[i].Label = slices.Clone(x.Label)
			}
			for range 1 + r.Intn(3) {
				spoil(r, &v)
			}
			if wantView(t, v) {
				good++
			}
		}
	}
	if good < 10000 || good > 50000 {
		t.Error("good:", good)
	}
}
