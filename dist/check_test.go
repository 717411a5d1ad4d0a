package dist_test

import (
	"math"
	"math/rand"
	"slices"
	"testing"

	"clearway/api"
	"clearway/dist"
)

// wantView fails the test if Good or Count of v differ from the reference. It returns whether v is good.
func wantView(t *testing.T, v api.View) bool {
	t.Helper()
	good, count := dist.Good(v), dist.Count(v)
	if good != isGood(v) || count != countOf(v) {
		t.Fatalf("%+v: %v, %d", v, good, count)
	}
	return good
}

// edgesAt returns the edges of the views below: sources from 2 (4 and 38), 3 (7 and 39), 8 and 4, steps to 3, 6 and 10, and a loop.
func edgesAt() []api.Edge {
	return []api.Edge{
		to(4, 2, 5, 3), both(7, 5, 3, 2), to(9, 5, 6, -4), to(12, 8, 5, -1000), to(13, 5, 10, 2), both(20, 5, 5, 0), to(30, 4, 5, 9), to(38, 2, 5, 3), both(39, 3, 5, 2),
	}
}

// near returns a view of the vertex 5 (Labels[3]) with these blocks of 2, 3, 4, 5, 6, 8 and 10.
func near(blocks ...[]int) api.View {
	v := api.View{Vertex: api.Vertex{ID: 5}, Depots: []int{0}, Edges: edgesAt()}
	for i, id := range []int{2, 3, 4, 5, 6, 8, 10} {
		v.Labels = append(v.Labels, api.Named{ID: id, Label: slices.Clone(blocks[i])})
	}
	return v
}

// nothing returns the block of a vertex that cannot be reached.
func nothing() []int { return make([]int, 9) }

// finite returns a good view of a vertex with the distance 7: by 2, by 3, and, with more steps, by 4.
func finite() api.View {
	return near(
		[]int{1, 2, 31, 4, 2, 31, 0, 0, 0}, []int{1, 1, 32, 5, 2, 32, 0, 0, 0}, []int{1, 1, 33, -2, 7, 34, 0, 0, 0},
		[]int{1, 2, 7, 7, 3, 4, 0, 0, 0},
		[]int{1, 3, 9, 3, 4, 9, 0, 0, 0}, nothing(), []int{2, 3, 13, 2, 14, -1, 0, 0, -1})
}

// depot returns a good view of the depot, which has the distance 0.
func depot() api.View {
	v := near(
		[]int{1, 2, 31, -3, 2, 31, 0, 0, 0}, []int{1, 1, 7, -2, 2, 32, 0, 0, 0}, []int{1, 1, 33, 44, 7, 34, 0, 0, 0},
		[]int{1, 0, -1, 0, 0, -1, 0, 0, 0},
		[]int{1, 1, 9, -4, 1, 9, 0, 0, 0}, nothing(), []int{2, 3, 13, 2, 14, -1, 0, 0, -1})
	v.Depots = []int{5}
	return v
}

// unreached returns a good view of a vertex that cannot be reached.
func unreached() api.View {
	return near(nothing(), nothing(), nothing(), nothing(), []int{1, 3, 10, 3, 4, 11, 0, 0, 0}, nothing(), []int{2, 3, 14, 2, 15, -1, 0, 0, -1})
}

// endless returns a good view of an endless vertex, which is on no cycle of an anchor.
func endless() api.View {
	return near(
		[]int{2, 2, 31, 3, 31, -1, 0, 0, -1}, []int{2, 1, 32, 2, 32, 3, 1, 9, 32}, []int{2, 1, 33, 2, 34, 4, 0, 0, 1},
		[]int{2, 2, 7, 3, 7, -1, 0, 0, -1},
		[]int{2, 3, 9, 4, 9, 2, 1, 0, 9}, nothing(), []int{2, 3, 13, 0, -1, 10, 0, 0, 14})
}

// passing returns a good view of a vertex on the cycle of the anchor 2, which goes on to 6.
func passing() api.View {
	return near(
		[]int{2, 2, 31, 0, -1, 2, 0, 0, 4}, []int{2, 1, 32, 2, 32, 3, 1, 9, 32}, []int{1, 1, 33, -2, 7, 34, 0, 0, 0},
		[]int{2, 2, 7, 1, 4, 2, 1, 3, 9},
		[]int{2, 3, 9, 2, 9, 2, 2, -1, 15}, nothing(), []int{2, 3, 13, 0, -1, 10, 0, 0, 14})
}

// closing returns a good view of the last vertex on the cycle of the anchor 6.
func closing() api.View {
	v := passing()
	v.Labels[3].Label = []int{2, 2, 7, 1, 4, 6, 4, 3, 9}
	v.Labels[4].Label = []int{2, 3, 9, 0, -1, 6, 0, 0, 15}
	return v
}

// anchor returns a good view of an anchor, whose cycle goes on to 6.
func anchor() api.View {
	v := passing()
	v.Labels[3].Label = []int{2, 2, 7, 0, -1, 5, 0, 0, 9}
	v.Labels[4].Label = []int{2, 3, 9, 1, 9, 5, 1, -4, 15}
	return v
}

// alone returns a good view of an anchor that is the depot, and whose cycle is a loop.
func alone() api.View {
	v := passing()
	v.Depots = []int{5}
	v.Edges[5].Weight = -1
	v.Labels[3].Label = []int{2, 0, -1, 0, -1, 5, 0, 0, 20}
	return v
}

// views returns what returns the views above.
func views() []func() api.View {
	return []func() api.View{finite, depot, unreached, endless, passing, closing, anchor, alone}
}

// variant is a view, what is changed in it, and whether it is good then.
type variant struct {
	from func() api.View
	f    func(v *api.View)
	good bool
}

// wantVariants fails the test if Good says something else of one of l.
func wantVariants(t *testing.T, l ...variant) {
	t.Helper()
	for i, c := range l {
		v := c.from()
		c.f(&v)
		if good := wantView(t, v); good != c.good {
			t.Errorf("%d: %+v: %v", i, v, good)
		}
	}
}

// set returns what writes n as the number k of the label i.
func set(i, k, n int) func(v *api.View) {
	return func(v *api.View) { v.Labels[i].Label[k] = n }
}

// put returns what writes the numbers l to the label i, from the number k on.
func put(i, k int, l ...int) func(v *api.View) {
	return func(v *api.View) { copy(v.Labels[i].Label[k:], l) }
}

// weigh returns what makes n the weight of the edge with the index i.
func weigh(i, n int) func(v *api.View) {
	return func(v *api.View) { v.Edges[i].Weight = n }
}

// all returns what does all of l.
func all(l ...func(v *api.View)) func(v *api.View) {
	return func(v *api.View) {
		for _, f := range l {
			f(v)
		}
	}
}

// without returns what removes the edge with the number id.
func without(id int) func(v *api.View) {
	return func(v *api.View) { v.Edges = slices.DeleteFunc(v.Edges, func(e api.Edge) bool { return e.ID == id }) }
}

// wantNumbers fails the test if the view, where one number of a label is another one, is not good exactly for those numbers for which good is true.
func wantNumbers(t *testing.T, from func() api.View, i, k int, good func(n int) bool) {
	t.Helper()
	for n := -50; n < 60; n++ {
		wantVariants(t, variant{from, set(i, k, n), good(n)})
	}
	wantVariants(t, variant{from, set(i, k, -24000), good(-24000)}, variant{from, set(i, k, 24000), good(24000)})
}

// is returns what reports whether a number is one of l, and atLeast what does so whether it is not less.
func is(l ...int) func(n int) bool     { return func(n int) bool { return slices.Contains(l, n) } }
func atLeast(least int) func(int) bool { return func(n int) bool { return n >= least } }

// P11.1: what no condition looks at does not matter.
func TestNotLookedAt(t *testing.T) {
	for _, from := range views() {
		wantVariants(t,
			variant{from, all(), true},
			variant{from, func(v *api.View) { v.Vertex.Side = 77 }, true},
			variant{from, func(v *api.View) { v.Edges[0].Cap = -1 }, true},
			variant{from, func(v *api.View) { slices.Reverse(v.Edges) }, true},
			variant{from, func(v *api.View) { slices.Reverse(v.Labels) }, true},
			variant{from, func(v *api.View) { v.Edges[5].Directed = true }, true},
			variant{from, func(v *api.View) { v.Edges[1].From, v.Edges[1].To = 3, 5 }, true},
			variant{from, func(v *api.View) {
				v.Labels = append(v.Labels, api.Named{ID: 9, Label: []int{math.MaxInt}}, api.Named{ID: -1}, api.Named{ID: 24, Label: make([]int, 9)}, api.Named{ID: 0, Label: []int{3, 3, 3, 3, 3, 3, 3, 3, 3}})
			}, true},
			// What the vertices to which steps only lead say, as long as no cycle goes on there.
			variant{from, put(6, 0, 0, 9, 9, 9, 9, 9, 9, 9, 9), true},
			variant{from, put(6, 0, 1, -9, -9, -9, -9, -9, -9, -9, -9), true},
			// A source that cannot be reached, whatever else it says.
			variant{from, put(5, 1, 0, 0, -9000, 0, 0, 0, 0, 0), true},
		)
	}
}

// P11.1: the edges of a view: their numbers, ends and weights.
func TestEdgesOfViews(t *testing.T) {
	for _, from := range views() {
		for i := range 9 {
			for _, n := range []int{-1, 40, math.MinInt, math.MaxInt} {
				wantVariants(t, variant{from, func(v *api.View) { v.Edges[i].ID = n }, false})
			}
			for _, n := range []int{-1001, 1001, math.MinInt, math.MaxInt} {
				wantVariants(t, variant{from, weigh(i, n), false})
			}
			for k := range 9 {
				wantVariants(t, variant{from, func(v *api.View) { v.Edges[i].ID = v.Edges[k].ID }, i == k})
			}
			for _, n := range []int{-1, 24, math.MinInt, math.MaxInt} {
				wantVariants(t, variant{from, func(v *api.View) {
					if v.Edges[i].From == 5 {
						v.Edges[i].To = n
					} else {
						v.Edges[i].From = n
					}
					v.Labels = append(v.Labels, api.Named{ID: n, Label: v.Labels[5].Label})
				}, false})
			}
			wantVariants(t,
				variant{from, func(v *api.View) { v.Edges[i].From, v.Edges[i].To = 6, 8 }, false},
				variant{from, func(v *api.View) { v.Edges[i].From, v.Edges[i].To = 6, 6 }, false},
				variant{from, func(v *api.View) { v.Edges[i].From, v.Edges[i].To = -1, -1 }, false},
				variant{from, func(v *api.View) { v.Edges[i].From = -v.Edges[i].From - 1 }, false},
				variant{from, func(v *api.View) { v.Edges = append(v.Edges, v.Edges[i]) }, false},
			)
		}
		wantVariants(t,
			variant{from, func(v *api.View) { v.Edges[3].ID, v.Edges[3].Weight = 0, 1000 }, true},
			variant{from, func(v *api.View) { v.Edges[4].ID, v.Edges[4].Weight = 39, -1000; v.Edges[8].ID = 14 }, true},
			variant{from, func(v *api.View) { v.Vertex.ID = 2 }, false},
		)
	}
}

// P11.1: the labels that must be there: those of the vertex, and of all other ends, with nine numbers for each depot.
func TestLabelsOfViews(t *testing.T) {
	for _, from := range views() {
		for i := range 7 {
			wantVariants(t,
				variant{from, func(v *api.View) { v.Labels = slices.Delete(v.Labels, i, i+1) }, false},
				variant{from, func(v *api.View) { v.Labels[i].Label = v.Labels[i].Label[:8] }, false},
				variant{from, func(v *api.View) { v.Labels[i].Label = append(v.Labels[i].Label, 0) }, false},
				variant{from, func(v *api.View) { v.Labels[i].Label = append(v.Labels[i].Label, v.Labels[i].Label...) }, false},
				variant{from, func(v *api.View) { v.Labels[i].Label = nil }, false},
				variant{from, func(v *api.View) { v.Labels[i].ID = 23 }, false},
			)
		}
		wantVariants(t,
			variant{from, func(v *api.View) { v.Labels = nil }, false},
			variant{from, func(v *api.View) { v.Depots = nil }, false},
			variant{from, func(v *api.View) { v.Depots = []int{v.Depots[0], v.Depots[0]} }, false},
		)
	}
}

// P11.1: of several labels of a vertex, the first one counts, whatever it has.
func TestSeveralLabels(t *testing.T) {
	for _, from := range views() {
		for i := range 7 {
			again := func(l ...int) func(v *api.View) {
				return func(v *api.View) { v.Labels = append(v.Labels, api.Named{ID: v.Labels[i].ID, Label: l}) }
			}
			before := func(l ...int) func(v *api.View) {
				return func(v *api.View) {
					v.Labels = slices.Insert(v.Labels, 0, api.Named{ID: v.Labels[i].ID, Label: l})
				}
			}
			wantVariants(t,
				variant{from, again(), true},
				variant{from, again(math.MaxInt, 9), true},
				variant{from, again(1, 1, 9, -900, 0, 0, 0, 0, 0), true},
				variant{from, before(), false},
				variant{from, before(1, 2, 3), false},
				variant{from, before(3, 0, 0, 0, 0, 0, 0, 0, 0), false},
			)
		}
		wantVariants(t, variant{from, func(v *api.View) {
			v.Labels = slices.Insert(v.Labels, 0, api.Named{ID: 5, Label: []int{1, 2, 8, 7, 3, 4, 0, 0, 0}})
		}, false})
	}
}

// P11.1: which numbers and states are possible, in the labels of all ends.
func TestPossibleNumbers(t *testing.T) {
	for _, from := range views() {
		for i := range 7 {
			for k := range 9 {
				for _, n := range []int{-24001, 24001, math.MinInt, math.MaxInt, 1 << 32} {
					v := from()
					v.Labels[i].Label[k] = n
					if wantView(t, v) || i == 3 && dist.Count(v) != 0 {
						t.Errorf("%+v", v)
					}
				}
			}
			for _, n := range []int{-24000, -1, 3, 4, 24000} {
				wantVariants(t, variant{from, set(i, 0, n), false})
			}
		}
		for k := 1; k < 9; k++ {
			for n := range 3 {
				wantVariants(t, variant{from, all(set(6, 0, n), set(6, k, 24000)), true}, variant{from, all(set(6, 0, n), set(6, k, -24000)), true})
			}
		}
	}
}

// several returns a view that puts those of l together, each for a depot of its own, which are the same in all of them.
func several(depots []int, l ...func() api.View) func() api.View {
	return func() api.View {
		v := l[0]()
		v.Depots = depots
		for _, f := range l[1:] {
			for i, x := range f().Labels {
				v.Labels[i].Label = append(v.Labels[i].Label, x.Label...)
			}
		}
		return v
	}
}

// P11.1: blocks for several depots, each of which is checked; there are at most three.
func TestSeveralDepots(t *testing.T) {
	three := several([]int{0, 1, 9}, finite, unreached, passing)
	wantVariants(t,
		variant{three, all(), true},
		variant{three, func(v *api.View) { v.Depots = []int{9, 0, 0} }, true},
		variant{three, func(v *api.View) { v.Depots = []int{-7, 99, math.MaxInt} }, true},
		variant{three, func(v *api.View) { v.Depots[0] = 5 }, false},
		variant{three, func(v *api.View) { v.Depots[1] = 5 }, false},
		variant{three, func(v *api.View) { v.Depots[2] = 5 }, false},
		variant{several([]int{5, 1, 9}, depot, endless, closing), all(), true},
		variant{several([]int{0, 1, 5}, anchor, finite, depot), all(), true},
		variant{several([]int{5, 1, 9}, finite, endless, closing), all(), false},
		variant{several([]int{0, 1}, unreached, endless), all(), true},
		variant{several([]int{0, 1, 2, 3}, finite, unreached, passing, finite), all(), false},
		variant{several([]int{0, 1}, finite, unreached, passing), all(), false},
		variant{three, set(3, 3, 8), false},
		variant{three, set(3, 9, 1), false},
		variant{three, set(3, 18+8, 8), false},
		variant{three, set(0, 18, 3), false},
		variant{three, set(6, 26, 24001), false},
	)
	v := three()
	if n := dist.Count(v); n != 7 {
		t.Error(n)
	}
}

// P11.1: without depots, labels are empty, and only the edges count.
func TestNoDepots(t *testing.T) {
	none := func() api.View {
		v := finite()
		v.Depots = nil
		for i := range v.Labels {
			v.Labels[i].Label = nil
		}
		return v
	}
	wantVariants(t,
		variant{none, all(), true},
		variant{none, weigh(5, -1), true},
		variant{none, weigh(0, 1001), false},
		variant{none, func(v *api.View) { v.Labels = v.Labels[1:] }, false},
		variant{none, func(v *api.View) { v.Labels = v.Labels[:6] }, false},
		variant{none, func(v *api.View) { v.Labels[3].ID = 23 }, false},
		variant{none, func(v *api.View) { v.Labels[2].Label = []int{0} }, false},
		variant{none, func(v *api.View) { v.Edges[0].ID = 7 }, false},
	)
}

// P11.1: the first condition asks nothing of the number of a vertex that has no edges.
func TestNumbersOfVertices(t *testing.T) {
	for _, id := range []int{-1, 0, 23, 24, math.MinInt, math.MaxInt} {
		lonely := func(depot int, b ...int) func() api.View {
			return func() api.View {
				return api.View{Vertex: api.Vertex{ID: id}, Depots: []int{depot}, Labels: []api.Named{{ID: id, Label: b}}}
			}
		}
		wantVariants(t,
			variant{lonely(7, 0, 0, 0, 0, 0, 0, 0, 0, 0), all(), true},
			variant{lonely(id, 0, 0, 0, 0, 0, 0, 0, 0, 0), all(), false},
			variant{lonely(id, 1, 0, -1, 0, 0, -1, 0, 0, 0), all(), true},
			variant{lonely(7, 1, 0, -1, 0, 0, -1, 0, 0, 0), all(), false},
			variant{lonely(id, 1, 0, -1, 0, 0, 0, 0, 0, 0), all(), false},
			// No cycle goes on without an edge, and no anchor is -1.
			variant{lonely(id, 2, 0, -1, 0, -1, -1, 0, 0, -1), all(), false},
			variant{lonely(id, 2, 0, -1, 1, 0, -1, 0, 0, -1), all(), false},
			variant{lonely(id, 2, 0, -1, 0, -1, min(max(id, -2), 24), 0, 0, 0), all(), false},
			variant{lonely(id, 2, 0, -1, 0, -1, min(max(id, -2), 24), 0, 0, -1), all(), false},
			variant{lonely(7, 0, 0, 0, 0, 0, 0, 0, 0, 0), func(v *api.View) { v.Depots, v.Labels[0].Label = nil, nil }, true},
			variant{lonely(7, 0, 0, 0, 0, 0, 0, 0, 0, 0), func(v *api.View) {
				v.Edges = []api.Edge{both(0, id, id, 0)}
			}, id == 0 || id == 23},
		)
	}
}

// P11.1: the states, and the numbers of steps from the depot with their edges, which are the same in the states 1 and 2.
func TestStepsFromTheDepot(t *testing.T) {
	for _, from := range []func() api.View{finite, endless, passing, closing, anchor} {
		state := from().Labels[3].Label[0]
		wantNumbers(t, from, 3, 0, is(state))
		wantNumbers(t, from, 3, 1, is(2))
		wantNumbers(t, from, 3, 2, is(7))
		// Of 2, 3 and 4, the last two are nearest to the depot; 3 has the edges 7 and 39, 4 has 30.
		wantNumbers(t, from, 0, 1, atLeast(2))
		wantNumbers(t, from, 1, 1, is(1))
		wantNumbers(t, from, 2, 1, atLeast(1))
		for n := -2; n < 44; n++ {
			wantVariants(t,
				variant{from, all(set(0, 1, 1), set(3, 2, n)), n == 4},
				variant{from, all(set(0, 1, 1), without(4), set(3, 2, n)), n == 7 && state == 2 && from().Labels[3].Label[4] != 4},
				variant{from, all(set(1, 1, 2), set(3, 2, n)), n == 30},
				variant{from, all(set(1, 1, 2), set(2, 1, 2), set(3, 1, 3), set(3, 2, n)), n == 4},
				variant{from, all(set(1, 1, -5), set(3, 1, -4), set(3, 2, n)), n == 7},
				variant{from, all(set(1, 1, -1), set(3, 1, 0), set(3, 2, n)), n == 7},
				variant{from, all(set(5, 1, -9), set(3, 2, n)), n == 7},
			)
		}
		// Nobody who could be reached is left.
		wantVariants(t,
			variant{from, all(without(4), without(7), without(30), without(38), without(39)), false},
			variant{from, all(without(4), without(7), without(30), without(38), without(39), put(3, 0, nothing()...)), true},
			variant{from, all(put(0, 0, nothing()...), put(1, 0, nothing()...), put(2, 0, nothing()...)), false},
			variant{from, all(put(0, 0, nothing()...), put(1, 0, nothing()...), put(2, 0, nothing()...), put(3, 0, nothing()...)), true},
			variant{from, put(3, 0, nothing()...), false},
		)
	}
	for _, from := range []func() api.View{depot, alone} {
		wantNumbers(t, from, 3, 0, is(from().Labels[3].Label[0]))
		wantNumbers(t, from, 3, 1, is(0))
		wantNumbers(t, from, 3, 2, is(-1))
		for i := range 3 {
			wantNumbers(t, from, i, 1, func(int) bool { return true })
		}
		wantVariants(t, variant{from, put(3, 0, nothing()...), false}, variant{from, func(v *api.View) { v.Depots[0] = 6 }, false})
	}
}

// P11.1: where all sources come from vertices that cannot be reached, nothing else is right than nine zeros.
func TestUnreached(t *testing.T) {
	for k := range 9 {
		wantNumbers(t, unreached, 3, k, is(0))
	}
	for _, i := range []int{0, 1, 2, 5} {
		wantVariants(t, variant{unreached, set(i, 0, 1), false}, variant{unreached, set(i, 0, 2), false}, variant{unreached, set(i, 1, 1), true})
	}
	wantVariants(t,
		variant{unreached, put(3, 0, 1, 1, -1, 0, 0, 0, 0, 0, 0), false},
		variant{unreached, put(3, 0, 1, 1, 4, 3, 1, 4, 0, 0, 0), false},
		variant{unreached, put(3, 0, 2, 1, 4, 1, 4, -1, 0, 0, -1), false},
		variant{unreached, func(v *api.View) { v.Depots[0] = 5 }, false},
		variant{unreached, func(v *api.View) { v.Edges = nil }, true},
		variant{unreached, weigh(5, -1000), true},
		// An undirected edge leads here, too.
		variant{unreached, func(v *api.View) { v.Edges[2].Directed = false }, false},
		variant{unreached, func(v *api.View) { v.Edges[4].Directed = false }, false},
	)
}

// P11.1: the distance is the least one over all sources, with the least number of steps, and then the least edge.
func TestDistances(t *testing.T) {
	wantNumbers(t, finite, 3, 3, is(7))
	wantNumbers(t, finite, 3, 4, is(3))
	wantNumbers(t, finite, 3, 5, is(4))
	for k := 6; k < 9; k++ {
		wantNumbers(t, finite, 3, k, is(0))
		wantNumbers(t, finite, 0, k, atLeast(-24000))
	}
	// 2 and 3 lead here with the same weight and number of steps, 4 with more of them.
	wantNumbers(t, finite, 0, 3, is(4))
	wantNumbers(t, finite, 1, 3, atLeast(5))
	wantNumbers(t, finite, 2, 3, atLeast(-2))
	wantNumbers(t, finite, 0, 4, is(2))
	wantNumbers(t, finite, 1, 4, atLeast(2))
	wantNumbers(t, finite, 2, 4, atLeast(2))
	wantNumbers(t, finite, 0, 5, atLeast(-24000))
	for n := -2; n < 44; n++ {
		wantVariants(t,
			variant{finite, all(set(2, 3, -3), put(3, 3, 6, 8, n)), n == 30},
			variant{finite, all(set(2, 3, -3), set(2, 4, 1), put(3, 3, 6, 2, n)), n == 30},
			variant{finite, all(set(0, 3, 5), set(3, 5, n)), n == 7},
			variant{finite, all(set(0, 4, 3), set(3, 5, n)), n == 7},
			variant{finite, all(set(0, 3, 5), set(1, 3, 6), put(3, 4, 8, n)), n == 30},
			variant{finite, all(set(2, 4, 2), set(3, 5, n)), n == 4},
			variant{finite, all(set(2, 4, 1), put(3, 4, 2, n)), n == 30},
			variant{finite, all(without(4), put(3, 4, 3, n)), n == 7},
			variant{finite, all(without(4), set(1, 4, 3), put(3, 4, 3, n)), n == 38},
			variant{finite, all(weigh(0, 2), put(3, 3, 6, 3, n)), n == 4},
			variant{finite, all(weigh(7, -1000), put(3, 3, -996, 3, n)), n == 38},
			variant{finite, all(weigh(8, 1), put(3, 3, 6, 3, n)), n == 39},
			variant{finite, all(set(1, 4, -4), put(3, 4, -3, n)), n == 7},
			variant{finite, all(set(1, 4, -1), put(3, 4, 0, n)), n == 7},
		)
	}
	// Nobody leads here whose distance is known, though one can be reached.
	wantVariants(t,
		variant{finite, all(without(7), without(39), without(30), put(0, 0, nothing()...)), false},
		variant{finite, put(3, 3, 0, 0, -1), false},
		variant{finite, func(v *api.View) { v.Edges[2].Directed = false; v.Labels[4].Label[3] = 11 }, true},
		variant{finite, func(v *api.View) { v.Edges[2].Directed = false; v.Labels[4].Label[3] = 10 }, false},
		variant{finite, func(v *api.View) { v.Edges[0].From, v.Edges[0].To = 5, 2 }, false},
	)
}

// P11.1: in the state 1, no source comes from an endless vertex, and no loop has a negative weight.
func TestNotEndless(t *testing.T) {
	for _, from := range []func() api.View{finite, depot} {
		wantVariants(t,
			variant{from, weigh(5, 1), true},
			variant{from, weigh(5, 1000), true},
			variant{from, weigh(5, -1), false},
			variant{from, weigh(5, -1000), false},
			variant{from, all(weigh(5, -1), func(v *api.View) { v.Edges[5].Directed = true }), false},
			variant{from, put(0, 0, 2, 2, 31, 0, -1, 2, 0, 0, 4), false},
			variant{from, put(2, 0, 2, 1, 33, 900, 9, -1, 0, 0, -1), false},
			variant{from, put(5, 0, 2, 23, 33, 900, 9, -1, 0, 0, -1), false},
			variant{from, put(4, 0, 2, 23, 33, 900, 9, -1, 0, 0, -1), true},
			variant{from, func(v *api.View) { v.Edges[4].Directed = false }, false},
		)
	}
}

// P11.1: the depot has the distance 0, if it has one, and nothing leads back to it by less.
func TestDepotItself(t *testing.T) {
	wantNumbers(t, depot, 3, 3, is(0))
	wantNumbers(t, depot, 3, 4, is(0))
	wantNumbers(t, depot, 3, 5, is(-1))
	for k := 6; k < 9; k++ {
		wantNumbers(t, depot, 3, k, is(0))
	}
	wantNumbers(t, depot, 0, 3, atLeast(-3))
	wantNumbers(t, depot, 1, 3, atLeast(-2))
	wantNumbers(t, depot, 2, 3, atLeast(-9))
	wantNumbers(t, depot, 0, 4, atLeast(-24000))
	wantNumbers(t, depot, 4, 3, atLeast(-24000))
	wantVariants(t,
		variant{depot, func(v *api.View) { v.Edges = nil }, true},
		variant{depot, weigh(0, 2), false},
		variant{depot, weigh(7, 2), false},
		variant{depot, weigh(8, 1), false},
		variant{depot, put(3, 3, 7, 3, 4), false},
		variant{depot, set(0, 0, 0), true},
		variant{depot, all(put(0, 0, nothing()...), put(1, 0, nothing()...), put(2, 0, nothing()...)), true},
	)
}

// P11.1: away from anchors, the number of steps from one is 1 more than that of a source, and positive.
func TestStepsFromAnAnchor(t *testing.T) {
	wantNumbers(t, endless, 3, 3, is(3))
	wantNumbers(t, endless, 3, 4, is(7))
	wantNumbers(t, endless, 0, 3, atLeast(3))
	wantNumbers(t, endless, 1, 3, is(2))
	wantNumbers(t, endless, 2, 3, atLeast(2))
	wantNumbers(t, passing, 3, 3, is(1))
	wantNumbers(t, passing, 3, 4, is(4))
	wantNumbers(t, passing, 0, 3, is(0))
	wantNumbers(t, passing, 1, 3, atLeast(0))
	wantNumbers(t, passing, 2, 3, atLeast(-24000))
	for n := -2; n < 44; n++ {
		wantVariants(t,
			variant{endless, all(set(0, 3, 2), set(3, 4, n)), n == 4},
			variant{endless, all(set(0, 3, 0), put(3, 3, 1, n)), n == 4},
			variant{endless, all(set(0, 3, 0), without(4), put(3, 3, 1, n)), n == 38},
			variant{endless, all(set(2, 3, 1), put(3, 3, 2, n)), n == 30},
			variant{endless, all(set(2, 3, 1), set(2, 0, 1), put(3, 3, 3, n)), n == 7},
			variant{endless, all(set(2, 3, 1), set(2, 0, 0), put(3, 3, 3, n)), n == 7},
			variant{endless, all(set(2, 3, -1), put(3, 3, 0, n)), false},
			variant{endless, all(set(2, 3, -2), put(3, 3, -1, n)), false},
			variant{passing, all(set(1, 3, 0), put(3, 4, n)), n == 4},
		)
	}
	// All sources are in the state 1.
	finite := all(put(0, 0, 1, 2, 31, 4, 2, 31, 0, 0, 0), put(1, 0, 1, 1, 32, 5, 2, 32, 0, 0, 0), put(2, 0, 1, 1, 33, -2, 7, 34, 0, 0, 0))
	wantVariants(t,
		variant{endless, finite, false},
		variant{endless, all(finite, put(3, 3, 0, -1)), false},
		variant{endless, all(finite, put(3, 3, 1, -1)), false},
		variant{passing, finite, false},
		variant{passing, all(finite, put(3, 3, 0, -1)), false},
		variant{anchor, finite, true},
		variant{anchor, all(finite, put(3, 3, 1, 4)), false},
		variant{anchor, put(3, 3, 1, 4), false},
		variant{anchor, put(3, 3, 0, 4), false},
		variant{anchor, put(3, 3, 1, -1), false},
		variant{alone, put(3, 3, 1, 4), false},
	)
	for _, from := range []func() api.View{anchor, alone} {
		wantNumbers(t, from, 3, 3, is(0))
		wantNumbers(t, from, 3, 4, is(-1))
	}
}

// P11.1: the last four numbers of a vertex that is on no cycle.
func TestOnNoCycle(t *testing.T) {
	for k, right := range []int{-1, 0, 0, -1} {
		wantNumbers(t, endless, 3, 5+k, is(right))
	}
	wantVariants(t,
		variant{passing, put(3, 5, -1, 0, 0, -1), true},
		variant{closing, put(3, 5, -1, 0, 0, -1), true},
		variant{anchor, put(3, 5, -1, 0, 0, -1), false},
		variant{anchor, put(3, 3, 1, 4, -1, 0, 0, -1), true},
		variant{endless, put(3, 5, 0, 0, 0, 0), false},
		variant{endless, put(3, 5, -1, 0, 0, 9), false},
		variant{endless, put(3, 5, -1, 1, 0, 9), false},
		variant{endless, put(3, 5, 2, 0, 4, 9), false},
	)
}

// P11.1: a cycle goes on by one step, with its weight, to the next position of the same anchor.
func TestCycleGoesOn(t *testing.T) {
	wantNumbers(t, passing, 3, 5, is(2))
	wantNumbers(t, passing, 3, 6, is(1))
	wantNumbers(t, passing, 3, 7, is(3))
	wantNumbers(t, passing, 3, 8, is(9))
	wantNumbers(t, passing, 4, 0, is(2))
	wantNumbers(t, passing, 4, 5, is(2))
	wantNumbers(t, passing, 4, 6, is(2))
	wantNumbers(t, passing, 4, 7, is(-1))
	wantNumbers(t, passing, 4, 8, atLeast(-24000))
	wantNumbers(t, anchor, 3, 5, is(5))
	wantNumbers(t, anchor, 3, 6, is(0))
	wantNumbers(t, anchor, 3, 7, is(0))
	wantNumbers(t, anchor, 3, 8, is(9))
	wantNumbers(t, anchor, 4, 0, is(2))
	wantNumbers(t, anchor, 4, 5, is(5))
	wantNumbers(t, anchor, 4, 6, is(1))
	wantNumbers(t, anchor, 4, 7, is(-4))
	for n := -2; n < 30; n++ {
		wantVariants(t,
			variant{passing, all(set(3, 6, n), set(4, 6, n+1)), 1 <= n && n <= 23},
			variant{passing, all(set(3, 5, n), set(4, 5, n)), 0 <= n && n <= 23 && n != 5},
			variant{anchor, all(set(3, 6, n), set(4, 6, n+1)), n == 0},
			variant{anchor, all(set(3, 7, n), set(4, 7, n-4)), n == 0},
			variant{passing, all(set(3, 7, n), set(4, 7, n-4)), true},
			variant{passing, all(weigh(2, n), set(4, 7, n+3)), true},
		)
	}
	for _, n := range []int{-24000, 24000} {
		wantVariants(t,
			variant{passing, all(set(3, 6, n), set(4, 6, n)), false},
			variant{passing, all(set(3, 5, n), set(4, 5, n)), false},
			variant{passing, all(set(3, 7, n-n/6000), set(4, 7, n-n/6000-4)), true},
		)
	}
	wantVariants(t,
		variant{passing, set(3, 8, 4), false},
		// Over an undirected edge, too; but not over one that only leads here, nor over one that is not at the vertex.
		variant{passing, all(set(3, 8, 7), put(1, 5, 2, 2, 5)), true},
		variant{passing, all(set(3, 8, 39), put(1, 5, 2, 2, 5)), true},
		variant{passing, all(set(3, 8, 7), put(1, 5, 2, 2, 4)), false},
		variant{passing, all(set(3, 8, 30), put(2, 0, 2, 1, 33, 4, 34, 2, 2, 12, 9)), false},
		variant{passing, all(set(3, 8, 40)), false},
		variant{passing, all(set(3, 8, 0)), false},
		variant{passing, all(set(3, 8, -1)), false},
		variant{passing, without(9), false},
		// Not over a loop, as the position stays.
		variant{passing, set(3, 8, 20), false},
		variant{passing, func(v *api.View) { v.Edges[2].From, v.Edges[2].To = 6, 5 }, false},
		variant{passing, func(v *api.View) { v.Edges[2].From, v.Edges[2].To, v.Edges[2].Directed = 6, 5, false }, true},
	)
}

// P11.1: a cycle ends at its anchor, with a negative weight.
func TestCycleEnds(t *testing.T) {
	wantNumbers(t, closing, 3, 5, is(6))
	wantNumbers(t, closing, 3, 6, func(n int) bool { return 1 <= n && n <= 23 })
	wantNumbers(t, closing, 3, 7, func(n int) bool { return n < 4 })
	wantNumbers(t, closing, 3, 8, is(9))
	wantNumbers(t, closing, 4, 0, is(2))
	wantNumbers(t, closing, 4, 5, is(6))
	wantNumbers(t, closing, 4, 6, is(0))
	wantNumbers(t, closing, 4, 7, atLeast(-24000))
	wantNumbers(t, alone, 3, 5, is(5))
	wantNumbers(t, alone, 3, 6, is(0))
	wantNumbers(t, alone, 3, 7, is(0))
	wantNumbers(t, alone, 3, 8, is(20))
	for n := -9; n < 9; n++ {
		wantVariants(t,
			variant{closing, weigh(2, n), n < -3},
			variant{alone, weigh(5, n), n < 0},
			variant{alone, all(set(3, 7, n)), n == 0},
			// To an anchor with another position, where the sum would be right.
			variant{closing, all(put(4, 6, 5, n)), n == -1},
			// To a vertex that is not the anchor, with the position 0.
			variant{passing, all(put(4, 6, 0, n)), false},
			variant{closing, all(set(3, 5, 3), set(4, 5, 3), set(4, 7, n)), false},
		)
	}
	wantVariants(t,
		variant{closing, put(4, 5, 6, 5, -1), true},
		variant{closing, all(set(3, 7, 4), put(4, 5, 6, 5, 0)), true},
		variant{alone, func(v *api.View) { v.Edges[5].Directed = true }, true},
		// If it ends by an undirected edge, this is one from the anchor, too.
		variant{closing, func(v *api.View) { v.Edges[2].Directed = false }, true},
		variant{closing, all(set(3, 8, 3), func(v *api.View) { v.Edges[2].Directed, v.Edges[2].ID = false, 3 }), false},
		variant{closing, all(set(3, 8, 3), set(3, 4, 3), func(v *api.View) { v.Edges[2].Directed, v.Edges[2].ID = false, 3 }), true},
	)
}

// P11.1: Count sums up the distances, of views that are good and others.
func TestCount(t *testing.T) {
	one := func(l ...int) api.View {
		return api.View{Vertex: api.Vertex{ID: 4}, Depots: make([]int, len(l)/9), Labels: []api.Named{{ID: 4, Label: l}}}
	}
	for i, c := range []struct {
		v    api.View
		want int
	}{
		{one(1, 0, 0, 7, 0, 0, 0, 0, 0), 7},
		{one(1, 0, 0, -24000, 0, 0, 0, 0, 0), -24000},
		{one(0, 0, 0, 7, 0, 0, 0, 0, 0), 0},
		{one(2, 0, 0, 7, 0, 0, 0, 0, 0), 0},
		{one(3, 0, 0, 7, 0, 0, 0, 0, 0), 0},
		{one(-1, 0, 0, 7, 0, 0, 0, 0, 0), 0},
		{one(1, 0, 0, 7, 0, 0, 0, 0, 0, 1, 0, 0, 9, 0, 0, 0, 0, 0), 16},
		{one(1, 0, 0, 7, 0, 0, 0, 0, 0, 2, 0, 0, 9, 0, 0, 0, 0, 0, 1, 0, 0, -8, 0, 0, 0, 0, 0), -1},
		{one(1, 0, 0, 7, 0, 0, 0, 0, 0, 1, 24000, 0, 9, 0, 0, 0, 0, 24000), 16},
		{one(1, 0, 0, 7, 0, 0, 0, 0, 0, 1, 24001, 0, 9, 0, 0, 0, 0, 0), 0},
		{one(1, 0, 0, 7, 0, 0, 0, 0, -24001, 1, 0, 0, 9, 0, 0, 0, 0, 0), 0},
		{one(1, 0, 0, 7, 0, 0, 0, 0, math.MinInt), 0},
		{one(1, 0, 0, 7, 0, 0, 0, 0), 0},
		{one(1, 0, 0, 7, 0, 0, 0, 0, 0, 0), 0},
		{one(), 0},
		{one(slices.Repeat([]int{1, 0, 0, 24000, 0, 0, 0, 0, 0}, 5)...), 120000},
		{api.View{}, 0},
		{api.View{Depots: []int{0}}, 0},
		{api.View{Labels: []api.Named{{Label: []int{1, 0, 0, 7, 0, 0, 0, 0, 0}}}}, 0},
		{api.View{Depots: []int{0}, Labels: []api.Named{{ID: 1, Label: []int{1, 0, 0, 7, 0, 0, 0, 0, 0}}}}, 0},
		{api.View{Depots: []int{0, 1}, Labels: []api.Named{{Label: []int{1, 0, 0, 7, 0, 0, 0, 0, 0}}}}, 0},
		{api.View{Depots: []int{0}, Labels: []api.Named{{}, {Label: []int{1, 0, 0, 7, 0, 0, 0, 0, 0}}}}, 0},
		{api.View{Depots: []int{0}, Labels: []api.Named{{ID: 1}, {Label: []int{1, 0, 0, 7, 0, 0, 0, 0, 0}}, {Label: []int{1, 0, 0, 8, 0, 0, 0, 0, 0}}}}, 7},
		{api.View{Vertex: api.Vertex{ID: -1}, Depots: []int{0}, Edges: []api.Edge{{ID: 99}}, Labels: []api.Named{{ID: -1, Label: []int{1, 0, 0, 7, 0, 0, 0, 0, 0}}}}, 7},
		{finite(), 7},
		{depot(), 0},
		{passing(), 0},
	} {
		if n := dist.Count(c.v); n != c.want || n != countOf(c.v) {
			t.Errorf("%d: %d", i, n)
		}
	}
}

// numbersOf returns all lists with one of each of l.
func numbersOf(l ...[]int) [][]int {
	all := [][]int{nil}
	for _, choices := range l {
		var longer [][]int
		for _, x := range all {
			for _, n := range choices {
				longer = append(longer, append(slices.Clone(x), n))
			}
		}
		all = longer
	}
	return all
}

// P11.1: all small views of the vertex 1 with edges from 0, and both with 2: all that it may say, between all that these may say of themselves.
func TestSmallViews(t *testing.T) {
	edges := []int{-1, 3, 5}
	own := slices.Concat(
		numbersOf([]int{0}, []int{0, 1}, []int{0, 3}, []int{0, 1}, []int{0}, []int{0}, []int{0}, []int{0}, []int{0, 1}),
		numbersOf([]int{1}, []int{0, 1, 2}, edges, []int{-1, 0, 1, 2}, []int{0, 1, 2}, edges, []int{0}, []int{0}, []int{0}),
		numbersOf([]int{2}, []int{0, 1}, []int{-1, 3}, []int{0, 1}, []int{-1, 3}, []int{-1, 0, 1, 2}, []int{0, 1, 2}, []int{-1, 0}, edges),
	)
	others := [][]int{nothing(), {1, 0, -1, 0, 0, -1, 0, 0, 0}, {1, 0, -1, 1, 1, 5, 0, 0, 0}, {1, 1, 5, 0, 1, 5, 0, 0, 0}, {2, 0, -1, 0, -1, 0, 0, 0, 3}, {2, 0, -1, 1, 5, 1, 1, -1, 5}, {2, 1, 5, 0, -1, 2, 0, 0, 5}, {2, 1, 5, 1, 5, -1, 0, 0, -1}, {2, 1, 5, 1, 5, 2, 2, 0, 5}}
	good := 0
	for _, w := range [][2]int{{1, -1}, {0, 0}} {
		v := api.View{Vertex: api.Vertex{ID: 1}, Depots: []int{0}, Edges: []api.Edge{to(3, 0, 1, w[0]), both(5, 2, 1, w[1])}, Labels: make([]api.Named, 3)}
		for _, depot := range []int{0, 1} {
			v.Depots[0] = depot
			for _, left := range others {
				for _, right := range others {
					v.Labels[0], v.Labels[2] = api.Named{ID: 0, Label: left}, api.Named{ID: 2, Label: right}
					for _, b := range own {
						v.Labels[1] = api.Named{ID: 1, Label: b}
						if wantView(t, v) {
							good++
						}
					}
				}
			}
		}
	}
	if good < 100 {
		t.Error("good:", good)
	}
}

// spoil changes something in v; now and then nothing that matters.
func spoil(r *rand.Rand, v *api.View) {
	n := []int{-1, 0, 1, 2, 3, 22, 23, 24, 39, 40, -1001, 1001, -24001, 24001, math.MinInt, math.MaxInt}[r.Intn(16)]
	if len(v.Edges) > 0 && r.Intn(3) == 0 {
		e := &v.Edges[r.Intn(len(v.Edges))]
		switch r.Intn(8) {
		case 0:
			e.ID = n
		case 1:
			e.From, e.To = e.To, e.From
		case 2:
			e.To = n
		case 3:
			e.Weight = n
		case 4:
			e.Directed = !e.Directed
		case 5:
			v.Edges = slices.Delete(v.Edges, 0, 1)
		case 6:
			e.ID++
		case 7:
			e.Weight += r.Intn(3) - 1
		}
		return
	}
	if len(v.Labels) == 0 || r.Intn(12) == 0 {
		v.Vertex.Side = n
		if len(v.Depots) > 0 {
			v.Depots = slices.Clone(v.Depots)
			v.Depots[0] = []int{v.Vertex.ID, n}[r.Intn(2)]
		}
		return
	}
	i := r.Intn(len(v.Labels))
	x := &v.Labels[i]
	switch k := r.Intn(20); k {
	case 0:
		v.Labels = slices.Delete(v.Labels, i, i+1)
	case 1:
		v.Labels = slices.Insert(v.Labels, i, api.Named{ID: r.Intn(24), Label: nothing()[:r.Intn(2)*9]})
	case 2:
		v.Labels = append(v.Labels, api.Named{ID: x.ID, Label: []int{n}})
	case 3:
		x.ID = n
	case 4:
		v.Vertex.ID = n
	case 5:
		x.Label = append(x.Label, 1, 0, -1, 0, 0, -1, 0, 0, 0)
	default:
		if k = r.Intn(27); k < len(x.Label) {
			x.Label[k] += []int{-1, 1, n}[r.Intn(3)]
		}
	}
}

// P11.1: views with something changed are good exactly if the conditions hold, one by one.
func TestSpoiledViews(t *testing.T) {
	r := rand.New(rand.NewSource(2))
	good := 0
	for range 1500 {
		g := randomGraph(r)
		l := modelOf(g)
		for range 40 {
			v := viewOf(g, l, g.Vertices[r.Intn(len(g.Vertices))].ID)
			for i, x := range v.Labels {
				v.Labels[i].Label = slices.Clone(x.Label)
			}
			for range 1 + r.Intn(3) {
				spoil(r, &v)
			}
			if wantView(t, v) {
				good++
			}
		}
	}
	if good < 5000 || good > 50000 {
		t.Error("good:", good)
	}
}
