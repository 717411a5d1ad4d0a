package pair_test

import (
	"math"
	"math/rand"
	"slices"
	"testing"

	"clearway/api"
	"clearway/pair"
)

// wantView fails the test if Good or Count of v differ from the reference. It returns whether v is good.
func wantView(t *testing.T, v api.View) bool {
	t.Helper()
	good, count := pair.Good(v), pair.Count(v)
	if good != isGood(v) || count != countOf(v) {
		t.Fatalf("%+v: %v, %d", v, good, count)
	}
	return good
}

// The prices of the edges of the views below that are seen.
const (
	price4  = 3*p + 1<<35
	price7  = 2*p + 1<<32
	price9  = 4*p + 1<<30
	price38 = 3*p + 1<<1
	price39 = 2*p + 1
)

// near returns a view of the vertex 5 (Labels[3]), which is on the given side, with these labels of 2, 3, 4, 5, 6, 8 and 10. Its edges to 2, 3 and 6 are seen; others lead to 8 (with a negative weight), to 10 (on no side), to itself, and to 4 (on the same side).
func near(side int, labels ...[]int) api.View {
	v := api.View{Vertex: api.Vertex{ID: 5, Side: side}, Depots: []int{0}}
	v.Edges = []api.Edge{
		edge(4, 5, 2, 3), to(7, 3, 5, 2), edge(9, 5, 6, 4), to(12, 8, 5, -1), edge(13, 5, 10, 900), edge(20, 5, 5, 1000), to(30, 4, 5, 1000), to(38, 5, 2, 3), edge(39, 3, 5, 2),
	}
	for i, id := range []int{2, 3, 4, 5, 6, 8, 10} {
		v.Labels = append(v.Labels, api.Named{ID: id, Label: slices.Clone(labels[i])})
	}
	return v
}

// matched returns a good view of a vertex on that side, which has the dual p, and the edge 7 to 3.
func matched(side int) func() api.View {
	other := 3 - side
	return func() api.View {
		return near(side, []int{31, price4 - p, other}, []int{7, price7 - p, other}, []int{-1, 0, side}, []int{7, p, side}, []int{32, price9 - p + 5, other}, []int{-1, 0, other}, []int{-1, 0, 0})
	}
}

// free returns a good view of a vertex on that side that is free.
func free(side int) func() api.View {
	other := 3 - side
	return func() api.View {
		return near(side, []int{31, price4, other}, []int{33, price7, other}, []int{-1, 0, side}, []int{-1, 0, side}, []int{32, price9, other}, []int{-1, 0, other}, []int{-1, 0, 0})
	}
}

// plain returns a good view of a vertex on neither side.
func plain(side int) func() api.View {
	return func() api.View {
		return near(side, []int{31, 4, 2}, []int{33, 0, 2}, []int{-1, 0, 1}, []int{-1, 0, 0}, []int{32, 7, 1}, []int{-1, 0, 1}, []int{-1, 0, 0})
	}
}

// views returns what returns the views above.
func views() []func() api.View {
	return []func() api.View{matched(1), matched(2), free(1), free(2), plain(0), plain(3)}
}

// variant is a view, what is changed in it, and whether it is good then.
type variant struct {
	from func() api.View
	f    func(v *api.View)
	good bool
}

// wantVariants fails the test if Good says something else of one of l.
func wantVariants(t *testing.T, l ...variant) {
	t.Helper()
	for i, c := range l {
		v := c.from()
		c.f(&v)
		if good := wantView(t, v); good != c.good {
			t.Errorf("%d: %+v: %v", i, v, good)
		}
	}
}

// put returns what writes the numbers l to the label i, from the number k on.
func put(i, k int, l ...int) func(v *api.View) {
	return func(v *api.View) { copy(v.Labels[i].Label[k:], l) }
}

// all returns what does all of l.
func all(l ...func(v *api.View)) func(v *api.View) {
	return func(v *api.View) {
		for _, f := range l {
			f(v)
		}
	}
}

// numbers returns some numbers, among them those at which something changes.
func numbers() []int {
	l := []int{math.MinInt, -1 << 52, -p, 1 << 52, 1<<52 + 1, 1 << 53, math.MaxInt, 0, p, 2 * p, price4, price7, price9, price38, price39}
	for _, n := range slices.Clone(l[7:]) {
		for _, d := range []int{n - p, price4 - n, price7 - n, price9 - n} {
			l = append(l, d-1, d, d+1, d+5)
		}
	}
	for n := -3; n < 43; n++ {
		l = append(l, n)
	}
	return l
}

// wantNumbers fails the test if the view, where the number k of the label i is another one, is not good exactly for those numbers for which good is true.
func wantNumbers(t *testing.T, from func() api.View, i, k int, good func(n int) bool) {
	t.Helper()
	for _, n := range numbers() {
		wantVariants(t, variant{from, put(i, k, n), good(n)})
	}
}

// within returns what reports whether a number is from least to most.
func within(least, most int) func(n int) bool {
	return func(n int) bool { return least <= n && n <= most }
}

const most = 1 << 52

// P12.1: what no condition looks at does not matter.
func TestNotLookedAt(t *testing.T) {
	for _, from := range views() {
		wantVariants(t,
			variant{from, all(), true},
			variant{from, func(v *api.View) { v.Depots = []int{99, -7, 99, 5, 5} }, true},
			variant{from, func(v *api.View) { v.Edges[0].Cap, v.Edges[1].Cap = -1, 1001 }, true},
			variant{from, func(v *api.View) { slices.Reverse(v.Edges) }, true},
			variant{from, func(v *api.View) { slices.Reverse(v.Labels) }, true},
			variant{from, func(v *api.View) { v.Edges = append(v.Edges, v.Edges...) }, true},
			variant{from, func(v *api.View) {
				for i, e := range v.Edges {
					v.Edges[i].Directed = !e.Directed
				}
			}, true},
			variant{from, func(v *api.View) {
				for i, e := range v.Edges {
					v.Edges[i].From, v.Edges[i].To = e.To, e.From
				}
			}, true},
			variant{from, func(v *api.View) {
				v.Labels = append(v.Labels, api.Named{ID: 9, Label: []int{math.MaxInt}}, api.Named{ID: -1}, api.Named{ID: 24, Label: []int{7, -7, 7}}, api.Named{ID: 0, Label: []int{3, 3, 3}})
			}, true},
			// Edges that are not at the vertex, whatever they are.
			variant{from, func(v *api.View) {
				v.Edges = append(v.Edges, edge(0, 2, 3, 1000), edge(1, 3, 4, 1000), edge(7, 4, 6, 9), edge(-1, -1, 99, 9999), edge(4, 6, 6, 7))
			}, true},
		)
	}
}

// P12.1: edges that are not seen: loops, those with a negative end, those whose number or weight no eligible edge has, and those not between both sides.
func TestEdgesThatAreNotSeen(t *testing.T) {
	for side := 1; side < 3; side++ {
		for _, from := range []func() api.View{matched(side), free(side)} {
			for _, n := range []int{-1, 40, -40, 64, math.MinInt, math.MaxInt} {
				wantVariants(t,
					variant{from, func(v *api.View) { v.Edges[0].Weight = 999 }, false},
					variant{from, func(v *api.View) { v.Edges[0].Weight, v.Edges[0].ID = 999, n }, true},
					variant{from, func(v *api.View) { v.Edges[7].Weight, v.Edges[7].ID = 1000, n }, true},
					variant{matched(side), func(v *api.View) { v.Edges[1].ID = n }, false},
					variant{matched(side), all(put(3, 0, n), put(1, 0, n), func(v *api.View) { v.Edges[1].ID = n }), false},
				)
			}
			for _, w := range []int{-1, -1000, -1001, 1001, 1002, math.MinInt, math.MaxInt} {
				wantVariants(t,
					variant{from, func(v *api.View) { v.Edges[0].Weight = w }, true},
					variant{from, func(v *api.View) { v.Edges[2].Weight = w }, true},
					variant{matched(side), func(v *api.View) { v.Edges[1].Weight = w }, false},
					variant{free(side), func(v *api.View) { v.Edges[1].Weight = w }, true},
				)
			}
			for _, id := range []int{-1, -2, math.MinInt} {
				away := func(v *api.View) {
					v.Edges[0].To, v.Edges[0].Weight = id, 1000
					v.Labels = append(v.Labels, api.Named{ID: id, Label: []int{4, 0, 3 - side}})
				}
				wantVariants(t,
					variant{from, away, true},
					variant{from, all(away, func(v *api.View) { v.Labels = v.Labels[:7] }), false},
					variant{from, all(away, func(v *api.View) { v.Labels[7].Label[2] = 3 }), false},
					variant{from, all(away, func(v *api.View) { v.Edges[0].From, v.Edges[0].To = id, 5 }), true},
					variant{matched(side), all(away, put(3, 0, 4)), false},
				)
			}
			for _, id := range []int{0, 24, 40, math.MaxInt} {
				away := func(n, weight int) func(v *api.View) {
					return func(v *api.View) {
						v.Edges[0].To, v.Edges[0].Weight = id, weight
						v.Labels = append(v.Labels, api.Named{ID: id, Label: []int{-1, n, 3 - side}})
					}
				}
				wantVariants(t, variant{from, away(0, 1000), false}, variant{from, away(1000*p+1<<35, 1000), true}, variant{from, away(price4, 3), true})
			}
		}
		// 4 and 10 on the other side, and 8, if its edge has no negative weight.
		for _, c := range []struct{ label, edge int }{{2, 6}, {6, 4}, {5, 3}} {
			wantVariants(t,
				variant{matched(side), put(c.label, 2, 3-side), c.edge == 3},
				variant{matched(side), all(put(c.label, 1, 1000*p), put(c.label, 2, 3-side)), true},
				variant{matched(side), func(v *api.View) { v.Edges[c.edge].Weight = 7 }, c.edge != 3},
				variant{matched(side), all(put(c.label, 1, 7*p), func(v *api.View) { v.Edges[c.edge].Weight = 7 }), true},
				variant{matched(side), all(put(c.label, 0, 9), put(3, 0, 9), func(v *api.View) { v.Edges[c.edge].Weight, v.Edges[c.edge].ID = 9, 9 }), false},
			)
		}
		wantVariants(t,
			variant{matched(side), put(0, 2, side), true},
			variant{matched(side), put(0, 1, 0, side), true},
			variant{matched(side), put(0, 1, 0, 0), true},
			variant{matched(side), put(1, 2, side), false},
			variant{matched(side), put(1, 2, 0), false},
		)
	}
}

// P12.1: at a vertex on neither side, no edge is seen.
func TestNeitherSide(t *testing.T) {
	for _, from := range []func() api.View{plain(0), plain(3), plain(-1), plain(4), plain(math.MaxInt), plain(math.MinInt)} {
		for i := range 7 {
			if i == 3 {
				continue
			}
			wantNumbers(t, from, i, 0, within(-1, 39))
			wantNumbers(t, from, i, 1, within(0, most))
			wantNumbers(t, from, i, 2, within(0, 2))
		}
		wantNumbers(t, from, 3, 0, within(-1, -1))
		wantNumbers(t, from, 3, 1, within(0, 0))
		wantNumbers(t, from, 3, 2, within(0, 0))
		for i := range 9 {
			for _, w := range []int{math.MinInt, 0, 1000, math.MaxInt} {
				wantVariants(t, variant{from, func(v *api.View) { v.Edges[i].Weight = w }, true}, variant{from, func(v *api.View) { v.Edges[i].ID = w }, true})
			}
		}
		// Where it is said to have an edge of the matching, which fits to what the other end says.
		wantVariants(t,
			variant{from, all(put(3, 0, 7), put(1, 0, 7, price7)), false},
			variant{from, all(put(3, 0, 7, 1), put(1, 0, 7, price7-1)), false},
			variant{from, all(put(3, 0, 7, 1, 1), put(1, 0, 7, price7-1)), false},
		)
	}
}

// P12.1: the last number is as the side says.
func TestSidesOfViews(t *testing.T) {
	for _, from := range views() {
		told := from().Labels[3].Label[2]
		wantNumbers(t, from, 3, 2, within(told, told))
		for _, n := range []int{math.MinInt, -1, 0, 1, 2, 3, 4, math.MaxInt} {
			wantVariants(t, variant{from, func(v *api.View) { v.Vertex.Side = n }, told == n || told == 0 && n != 1 && n != 2})
		}
	}
	// With another side, the edges are others, too.
	wantVariants(t,
		variant{free(1), all(put(3, 2, 2), func(v *api.View) { v.Vertex.Side = 2 }), false},
		variant{free(1), all(put(3, 2, 2), func(v *api.View) { v.Vertex.Side = 2; v.Edges[6].Weight = -1 }), true},
		variant{free(2), all(put(3, 2, 0), func(v *api.View) { v.Vertex.Side = 3 }), true},
		variant{matched(1), all(put(3, 2, 0), func(v *api.View) { v.Vertex.Side = 3 }), false},
		variant{matched(1), all(put(3, 0, -1, 0, 0), func(v *api.View) { v.Vertex.Side = 3 }), true},
	)
}

// P12.1: the labels that must be there: those of the vertex, and of all neighbours, with three numbers.
func TestLabelsOfViews(t *testing.T) {
	for _, from := range views() {
		for i := range 7 {
			wantVariants(t,
				variant{from, func(v *api.View) { v.Labels = slices.Delete(v.Labels, i, i+1) }, false},
				variant{from, func(v *api.View) { v.Labels[i].Label = v.Labels[i].Label[:2] }, false},
				variant{from, func(v *api.View) { v.Labels[i].Label = append(v.Labels[i].Label, 0) }, false},
				variant{from, func(v *api.View) { v.Labels[i].Label = append(v.Labels[i].Label, v.Labels[i].Label...) }, false},
				variant{from, func(v *api.View) { v.Labels[i].Label = nil }, false},
				variant{from, func(v *api.View) { v.Labels[i].ID = 23 }, false},
			)
			if i == 3 {
				continue
			}
			// Without edges to it, a label may be anything.
			id := from().Labels[i].ID
			apart := func(v *api.View) {
				v.Edges = slices.DeleteFunc(v.Edges, func(e api.Edge) bool { return e.From == id || e.To == id })
			}
			good := i != 1 || from().Labels[3].Label[0] != 7
			wantVariants(t,
				variant{from, apart, good},
				variant{from, all(apart, func(v *api.View) { v.Labels = slices.Delete(v.Labels, i, i+1) }), good},
				variant{from, all(apart, func(v *api.View) { v.Labels[i].Label = []int{7, -1, 9, 9} }), good},
			)
		}
		wantVariants(t,
			variant{from, func(v *api.View) { v.Labels = nil }, false},
			variant{from, func(v *api.View) { v.Labels = v.Labels[3:4] }, false},
			variant{from, func(v *api.View) { v.Vertex.ID = 2 }, false},
			variant{from, func(v *api.View) { v.Vertex.ID = 7 }, false},
			variant{from, func(v *api.View) { v.Vertex.ID = -1 }, false},
		)
	}
}

// P12.1: of several labels of a vertex, the first one counts, whatever it has.
func TestSeveralLabels(t *testing.T) {
	for _, from := range views() {
		for i := range 7 {
			again := func(l ...int) func(v *api.View) {
				return func(v *api.View) { v.Labels = append(v.Labels, api.Named{ID: v.Labels[i].ID, Label: l}) }
			}
			before := func(l ...int) func(v *api.View) {
				return func(v *api.View) {
					v.Labels = slices.Insert(v.Labels, 0, api.Named{ID: v.Labels[i].ID, Label: l})
				}
			}
			right := from().Labels[i].Label
			wantVariants(t,
				variant{from, again(), true},
				variant{from, again(math.MaxInt, 9), true},
				variant{from, again(4, 0, 2), true},
				variant{from, before(right...), true},
				variant{from, all(before(right...), func(v *api.View) { v.Labels[i+1].Label = nil }), true},
				variant{from, before(), false},
				variant{from, before(1, 2, 3), false},
				variant{from, before(-2, 0, 0), false},
				variant{from, before(0, -1, 2), false},
			)
		}
	}
}

// P12.1: which numbers are possible, in the labels of all neighbours.
func TestPossibleNumbers(t *testing.T) {
	for _, from := range views() {
		for i := range 7 {
			for _, n := range []int{math.MinInt, -p, -2, 40, 41, most, math.MaxInt} {
				wantVariants(t, variant{from, put(i, 0, n), false})
			}
			for _, n := range []int{math.MinInt, -p, -2, -1, most + 1, most + p, math.MaxInt} {
				wantVariants(t, variant{from, put(i, 1, n), false})
			}
			for _, n := range []int{math.MinInt, -p, -2, -1, 3, 4, most, math.MaxInt} {
				wantVariants(t, variant{from, put(i, 2, n), false})
			}
		}
		// What a neighbour says to which no edge is seen.
		for _, i := range []int{2, 5, 6} {
			wantNumbers(t, from, i, 0, within(-1, 39))
			wantNumbers(t, from, i, 1, within(0, most))
		}
	}
}

// P12.1: the sum of the duals of both ends of an edge that is seen is at least its price.
func TestSumsOfDuals(t *testing.T) {
	for side := 1; side < 3; side++ {
		from := matched(side)
		wantNumbers(t, from, 0, 1, within(price4-p, most))
		wantNumbers(t, from, 1, 1, within(price7-p, price7-p))
		wantNumbers(t, from, 4, 1, within(price9-p, most))
		wantNumbers(t, from, 3, 1, within(p, p))
		for i, id := range []int{31, 7, -1, 7, 32, -1, -1} {
			// A neighbour may say anything of its edge, but the one that is matched to the vertex.
			least, greatest := -1, 39
			if id == 7 {
				least, greatest = 7, 7
			}
			wantNumbers(t, from, i, 0, within(least, greatest))
		}
		from = free(side)
		wantNumbers(t, from, 0, 1, within(price4, most))
		wantNumbers(t, from, 1, 1, within(price7, most))
		wantNumbers(t, from, 4, 1, within(price9, most))
		wantNumbers(t, from, 3, 1, within(0, 0))
		wantNumbers(t, from, 3, 0, within(-1, -1))
		for _, i := range []int{0, 1, 2, 4, 5, 6} {
			wantNumbers(t, from, i, 0, within(-1, 39))
		}
		// The prices of parallel edges, and of others with the same weights.
		for id := range 40 {
			for _, k := range []int{0, 7} {
				wantVariants(t, variant{from, func(v *api.View) { v.Edges[k].ID = id }, id >= 4})
			}
		}
		wantVariants(t,
			variant{from, put(0, 1, price4-1), false},
			variant{from, all(put(0, 1, price4-1), func(v *api.View) { v.Edges = v.Edges[1:] }), true},
			variant{from, all(put(0, 1, price38), func(v *api.View) { v.Edges = v.Edges[1:] }), true},
			variant{from, all(put(0, 1, price38-1), func(v *api.View) { v.Edges = v.Edges[1:] }), false},
			variant{from, func(v *api.View) { v.Edges[0].Weight = 4 }, false},
			variant{from, func(v *api.View) { v.Edges[0].Weight = 0 }, true},
			variant{from, all(put(0, 1, 1000*p+1<<35), func(v *api.View) { v.Edges[0].Weight = 1000 }), true},
			variant{from, all(put(0, 1, 1000*p+1<<35-1), func(v *api.View) { v.Edges[0].Weight = 1000 }), false},
			variant{from, all(put(0, 1, most, 3-side)), true},
			variant{matched(side), all(put(0, 1, most, 3-side)), true},
		)
	}
}

// P12.1: a vertex that is matched has an edge that is seen, whose price is the sum, and whose other end says the same.
func TestMatched(t *testing.T) {
	for side := 1; side < 3; side++ {
		from := matched(side)
		wantNumbers(t, from, 3, 0, within(7, 7))
		for n := -2; n < 42; n++ {
			wantVariants(t,
				// Whatever all neighbours say of their edges.
				variant{from, all(put(3, 0, n), put(0, 0, n), put(1, 0, n), put(4, 0, n)), n == 4 || n == 7},
				variant{from, all(put(3, 0, n), put(0, 0, n), put(1, 0, n), put(4, 0, n, price9-p)), n == 4 || n == 7 || n == 9},
				variant{from, all(put(3, 0, n), put(1, 0, n)), n == 7},
				variant{from, all(put(3, 0, n), put(0, 0, n)), n == 4 || n == 7},
				variant{from, all(put(3, 0, n), put(4, 0, n)), n == 7},
				variant{from, put(1, 0, n), n == 7},
			)
		}
		wantVariants(t,
			variant{from, put(3, 0, -1), false},
			variant{from, put(3, 0, -1, 0), false},
			variant{from, func(v *api.View) { v.Edges = slices.Delete(v.Edges, 1, 2) }, false},
			variant{from, func(v *api.View) { v.Edges = v.Edges[1:2] }, true},
			variant{from, func(v *api.View) { v.Edges = nil }, false},
			variant{from, func(v *api.View) { v.Edges[1].Weight = 1 }, false},
			// The parallel edge, if the duals are those that it needs, and the other one is gone.
			variant{from, all(put(3, 0, 39, p+1), put(1, 0, 39, p), func(v *api.View) { v.Edges[1].Weight = 1 }), true},
			variant{from, all(put(3, 0, 39, p+1), put(1, 0, 39, p)), false},
			variant{from, all(put(3, 0, 39), put(1, 0, 39)), false},
			// Of two edges with the number 7, one fits, or both are at other vertices.
			variant{from, func(v *api.View) { v.Edges[0].ID, v.Edges[0].Weight = 7, 1 }, true},
			variant{from, func(v *api.View) { v.Edges[7].ID = 7 }, true},
			variant{from, func(v *api.View) { v.Edges[8].ID = 7 }, true},
			variant{from, all(put(3, 0, 4), put(0, 0, 4), func(v *api.View) { v.Edges[7].ID, v.Edges[7].Weight = 4, -3 }), true},
			variant{from, all(func(v *api.View) { v.Edges[0].To, v.Edges[0].ID, v.Edges[0].Weight = 6, 7, 2 }), true},
			variant{from, all(func(v *api.View) { v.Edges[0].ID, v.Edges[1].ID, v.Edges[1].Weight = 7, 4, 1 }), false},
			// A dual of 0 is one, too.
			variant{from, func(v *api.View) {
				v.Edges = v.Edges[1:2]
				v.Labels[3].Label[1], v.Labels[1].Label[1] = 0, price7
			}, true},
			variant{from, func(v *api.View) {
				v.Edges = v.Edges[1:2]
				v.Labels[3].Label[1], v.Labels[1].Label[1] = price7, 0
			}, true},
			variant{from, func(v *api.View) {
				v.Edges = v.Edges[1:2]
				v.Labels[3].Label[1], v.Labels[1].Label[1] = price7+1, -1
			}, false},
		)
		// Both ends say that they are matched by an edge that has no price, and that they have nothing.
		for _, w := range []int{-1, -1000, -1001, 1001, math.MinInt, math.MaxInt} {
			wantVariants(t, variant{from, func(v *api.View) {
				v.Edges = v.Edges[1:2]
				v.Edges[0].Weight, v.Labels[3].Label[1], v.Labels[1].Label[1] = w, 0, 0
			}, false})
		}
	}
}

// P12.1: vertices with any number, and with no edges.
func TestNumbersOfVertices(t *testing.T) {
	for _, id := range []int{-1, 0, 23, 24, 63, math.MinInt, math.MaxInt} {
		lonely := func(side int, l ...int) func() api.View {
			return func() api.View {
				return api.View{Vertex: api.Vertex{ID: id, Side: side}, Labels: []api.Named{{ID: id, Label: l}}}
			}
		}
		with := func(n int, label ...int) func(v *api.View) {
			return func(v *api.View) {
				v.Edges = []api.Edge{edge(7, id, 3, n)}
				v.Labels = append(v.Labels, api.Named{ID: 3, Label: label})
			}
		}
		wantVariants(t,
			variant{lonely(0, -1, 0, 0), all(), true},
			variant{lonely(1, -1, 0, 1), all(), true},
			variant{lonely(2, -1, 0, 2), all(), true},
			variant{lonely(1, -1, 1, 1), all(), false},
			variant{lonely(1, 7, 0, 1), all(), false},
			variant{lonely(1, 7, price7, 1), func(v *api.View) { v.Edges = []api.Edge{edge(7, id, id, 2)} }, false},
			variant{lonely(1, -1, 0, 1), func(v *api.View) { v.Edges = []api.Edge{edge(7, id, id, 2)} }, true},
			variant{lonely(1, -1, 0, 1), with(2, 9, price7, 2), true},
			variant{lonely(1, -1, 0, 1), with(2, 9, price7-1, 2), false},
			variant{lonely(1, 7, 0, 1), with(2, 7, price7, 2), true},
			variant{lonely(2, 7, 0, 2), with(2, 7, price7, 1), true},
			variant{lonely(2, 7, 0, 2), with(2, 7, price7, 2), false},
			variant{lonely(2, 7, 0, 2), with(2, 7, price7+1, 1), false},
		)
	}
}

// P12.1: Count returns a weight, of views that are good and others.
func TestCount(t *testing.T) {
	one := func(label []int, edges ...api.Edge) api.View {
		return api.View{Vertex: api.Vertex{ID: 4, Side: 2}, Edges: edges, Labels: []api.Named{{ID: 4, Label: label}}}
	}
	for i, c := range []struct {
		v    api.View
		want int
	}{
		{one([]int{7, 0, 1}, edge(7, 4, 3, 12)), 12},
		{one([]int{7, 0, 1}, edge(6, 4, 3, 11), edge(7, 4, 3, 12), edge(7, 4, 3, 13)), 12},
		{one([]int{7, 0, 1}, edge(7, 0, 0, -12)), -12},
		{one([]int{7, -5, 1}, edge(7, 1, 2, math.MaxInt)), math.MaxInt},
		{one([]int{-1, 0, 1}, edge(-1, 1, 2, 99)), 99},
		{one([]int{math.MinInt, math.MaxInt, 1}, edge(math.MinInt, 1, 2, math.MinInt)), math.MinInt},
		{one([]int{-1, 0, 1}, edge(7, 4, 3, 12)), 0},
		{one([]int{8, 0, 1}, edge(7, 4, 3, 12)), 0},
		{one([]int{7, 0, 2}, edge(7, 4, 3, 12)), 0},
		{one([]int{7, 0, 0}, edge(7, 4, 3, 12)), 0},
		{one([]int{7, 0, 3}, edge(7, 4, 3, 12)), 0},
		{one([]int{7, 0}, edge(7, 4, 3, 12)), 0},
		{one([]int{7, 0, 1, 1}, edge(7, 4, 3, 12)), 0},
		{one([]int{7, 1}, edge(7, 4, 3, 12)), 0},
		{one([]int{7}, edge(7, 4, 3, 12)), 0},
		{one(nil, edge(0, 4, 3, 12)), 0},
		{one([]int{7, 0, 1}), 0},
		{api.View{}, 0},
		{api.View{Edges: []api.Edge{edge(0, 0, 1, 3)}}, 0},
		{api.View{Edges: []api.Edge{edge(0, 0, 1, 3)}, Labels: []api.Named{{ID: 1, Label: []int{0, 0, 1}}}}, 0},
		{api.View{Edges: []api.Edge{edge(0, 0, 1, 3)}, Labels: []api.Named{{ID: 1}, {Label: []int{0, 0, 1}}, {Label: []int{0, 0, 2}}}}, 3},
		{api.View{Edges: []api.Edge{edge(0, 0, 1, 3)}, Labels: []api.Named{{}, {Label: []int{0, 0, 1}}}}, 0},
		{api.View{Edges: []api.Edge{edge(0, 0, 1, 3)}, Labels: []api.Named{{Label: []int{0, 0, 2}}, {Label: []int{0, 0, 1}}}}, 0},
		{api.View{Vertex: api.Vertex{ID: -1}, Edges: []api.Edge{edge(5, 0, 1, 3)}, Labels: []api.Named{{ID: -1, Label: []int{5, 0, 1}}}}, 3},
		{matched(1)(), 2},
		{matched(2)(), 0},
		{free(1)(), 0},
		{plain(0)(), 0},
	} {
		if n := pair.Count(c.v); n != c.want || n != countOf(c.v) {
			t.Errorf("%d: %d", i, n)
		}
	}
}

// P12.1: all small views of the vertex 1 with two edges, which lead to one neighbour or to two of them, between all that they may say.
func TestSmallViews(t *testing.T) {
	good := 0
	duals := []int{-1, 0, 1, 2, 3, 4, 5, p}
	for _, ends := range [][2]int{{0, 2}, {0, 0}, {0, 1}, {0, -1}} {
		v := api.View{Edges: []api.Edge{edge(38, 1, ends[0], 0), to(39, ends[1], 1, 0)}}
		for _, own := range labelsBetween([]int{-1, 38, 39}, duals, []int{0, 1, 2}) {
			for _, x := range labelsBetween([]int{-1, 38, 39}, duals, []int{0, 1, 2}) {
				for _, y := range labelsBetween([]int{-1, 39}, []int{0, 1, 2}, []int{1, 2}) {
					v.Labels = []api.Named{{ID: ends[1], Label: y}, {ID: 0, Label: x}, {ID: 1, Label: own}}
					for side := range 3 {
						v.Vertex = api.Vertex{ID: 1, Side: side}
						if wantView(t, v) {
							good++
						}
					}
				}
			}
		}
	}
	if good < 5000 {
		t.Error("good:", good)
	}
}

// labelsBetween returns all labels with these numbers.
func labelsBetween(edges, duals, sides []int) [][]int {
	var l [][]int
	for _, e := range edges {
		for _, d := range duals {
			for _, s := range sides {
				l = append(l, []int{e, d, s})
			}
		}
	}
	return l
}

// spoil changes something in v; now and then nothing that matters.
func spoil(r *rand.Rand, v *api.View) {
	n := []int{-2, -1, 0, 1, 2, 3, 23, 24, 39, 40, -1001, 1001, most, most + 1, math.MinInt, math.MaxInt}[r.Intn(16)]
	if len(v.Edges) > 0 && r.Intn(3) == 0 {
		e := &v.Edges[r.Intn(len(v.Edges))]
		switch r.Intn(9) {
		case 0:
			e.ID = n
		case 1:
			e.From, e.To = e.To, e.From
		case 2:
			e.To = n
		case 3:
			e.Weight = n
		case 4:
			e.Directed = !e.Directed
		case 5:
			v.Edges = slices.Delete(v.Edges, 0, 1)
		case 6:
			e.ID++
		case 7:
			e.Weight += r.Intn(3) - 1
		case 8:
			v.Edges = append(v.Edges, *e)
		}
		return
	}
	if len(v.Labels) == 0 || r.Intn(12) == 0 {
		v.Vertex.Side = n
		return
	}
	i := r.Intn(len(v.Labels))
	x := &v.Labels[i]
	switch k := r.Intn(16); k {
	case 0:
		v.Labels = slices.Delete(v.Labels, i, i+1)
	case 1:
		v.Labels = slices.Insert(v.Labels, i, api.Named{ID: r.Intn(24), Label: []int{-1, 0, 1}[:r.Intn(2)*3]})
	case 2:
		v.Labels = append(v.Labels, api.Named{ID: x.ID, Label: []int{n}})
	case 3:
		x.ID = n
	case 4:
		v.Vertex.ID = n
	case 5:
		x.Label = append(x.Label, n)
	default:
		if k %= 3; k < len(x.Label) {
			x.Label[k] += []int{-1, 1, p, 1 << r.Intn(40), n}[r.Intn(5)]
		}
	}
}

// P12.1: views with something changed are good exactly if the conditions hold, one by one.
func TestSpoiledViews(t *testing.T) {
	r := rand.New(rand.NewSource(2))
	good := 0
	for i := range 2000 {
		g := randomGraph(r)
		if i%2 == 0 {
			g = crowd(r)
		}
		l := modelOf(g).labels()
		for range 40 {
			v := viewOf(g, l, g.Vertices[r.Intn(len(g.Vertices))].ID)
			for i, x := range v.Labels {
				v.Labels[i].Label = slices.Clone(x.Label)
			}
			for range 1 + r.Intn(3) {
				spoil(r, &v)
			}
			if wantView(t, v) {
				good++
			}
		}
	}
	if good < 10000 || good > 60000 {
		t.Error("good:", good)
	}
}
