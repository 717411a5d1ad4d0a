package blossom_test

import (
	"math"
	"math/rand"
	"slices"
	"testing"

	"clearway/api"
	"clearway/blossom"
)

// wantView fails the test if Good or Count of v differ from the reference. It returns whether v is good.
func wantView(t *testing.T, v api.View) bool {
	t.Helper()
	good, count := blossom.Good(v), blossom.Count(v)
	if good != isGood(v) || count != countOf(v) {
		t.Fatalf("%+v: %v, %d", v, good, count)
	}
	return good
}

// The prices of the usable edges of the views below, and the greatest dual.
const (
	price4  = 3*p + 1<<35
	price7  = 2*p + 1<<32
	price9  = 4*p + 1<<30
	price38 = 3*p + 1<<1
	price39 = 2*p + 1
	most    = 1 << 56
)

// near returns a view of the vertex 5 (Labels[2]), with these labels of 2, 3, 5, 6 and 8. Its edges to 2, 3 and 6 are usable, two of them have parallel ones; others lead to 8 (with a negative weight) and to itself.
func near(labels ...[]int) api.View {
	v := api.View{Vertex: api.Vertex{ID: 5, Side: 1}, Depots: []int{0}}
	v.Edges = []api.Edge{
		edge(4, 5, 2, 3), to(7, 3, 5, 2), edge(9, 5, 6, 4), to(12, 8, 5, -1), edge(20, 5, 5, 1000), edge(38, 5, 2, 3), edge(39, 3, 5, 2),
	}
	for i, id := range []int{2, 3, 5, 6, 8} {
		v.Labels = append(v.Labels, api.Named{ID: id, Label: slices.Clone(labels[i])})
	}
	return v
}

// matched returns a good view of a vertex that has the edge 7 to 3. It is in three sets: the base of the first one, in which 2 is, too; the second one has 2 and 3, and the third one all of them but 8.
func matched() api.View {
	return near(
		[]int{31, 2*price4 - 2*p - p/2 - 6, 2, 3, 5, 6, 2, 5, 3, p, 0, 9, 11, p / 2},
		[]int{7, 2*price7 - 2*p - p/2, 2, 5, 3, p, 0, 9, 11, p / 2},
		[]int{7, p, 2, 3, 5, 6, 2, 5, 3, p, 0, 9, 11, p / 2},
		[]int{32, 2*price9 - p - p/2 + 5, 6, 3, 6, 9, 0, 9, 11, p / 2},
		[]int{-1, 0, 8, 3, 8, 1},
	)
}

// free returns a good view of a vertex without an edge, which is the base of all of its sets.
func free() api.View {
	return near(
		[]int{31, 2*price4 - p - p/2 - 6, 2, 3, 5, 6, 2, 5, 5, p, 0, 9, 5, p / 2},
		[]int{33, 2*price7 - p - p/2, 2, 5, 5, p, 0, 9, 5, p / 2},
		[]int{-1, 0, 2, 3, 5, 6, 2, 5, 5, p, 0, 9, 5, p / 2},
		[]int{32, 2*price9 - p/2 + 5, 6, 3, 6, 9, 0, 9, 5, p / 2},
		[]int{-1, 0, 8, 3, 8, 1},
	)
}

// plain returns a good view of a vertex that is in no set.
func plain() api.View {
	return near(
		[]int{31, 2*price4 - p, 2, 3, 9, 6},
		[]int{7, 2*price7 - p, 2, 3, 9, 6},
		[]int{7, p},
		[]int{-1, 2*price9 - p},
		[]int{-1, 0, 8, 3, 8, 1},
	)
}

// views returns what returns the views above.
func views() []func() api.View { return []func() api.View{matched, free, plain} }

// variant is a view, what is changed in it, and whether it is good then.
type variant struct {
	from func() api.View
	f    func(v *api.View)
	good bool
}

// wantVariants fails the test if Good says something else of one of l.
func wantVariants(t *testing.T, l ...variant) {
	t.Helper()
	for i, c := range l {
		v := c.from()
		c.f(&v)
		if good := wantView(t, v); good != c.good {
			t.Errorf("%d: %+v: %v", i, v, good)
		}
	}
}

// put returns what writes the numbers l to the label i, from the number k on.
func put(i, k int, l ...int) func(v *api.View) {
	return func(v *api.View) { copy(v.Labels[i].Label[k:], l) }
}

// say returns what makes l the label i.
func say(i int, l ...int) func(v *api.View) {
	return func(v *api.View) { v.Labels[i].Label = slices.Clone(l) }
}

// all returns what does all of l.
func all(l ...func(v *api.View)) func(v *api.View) {
	return func(v *api.View) {
		for _, f := range l {
			f(v)
		}
	}
}

// edges returns what does f to the edges.
func edges(f func(l []api.Edge) []api.Edge) func(v *api.View) {
	return func(v *api.View) { v.Edges = f(v.Edges) }
}

// numbers returns some numbers, among them those at which something changes.
func numbers() []int {
	l := []int{math.MinInt, -most, -p, most, math.MaxInt, 0, p, 2 * p, p / 2, 2 * price4, 2 * price7, 2 * price9}
	for _, v := range views() {
		for _, x := range v().Labels {
			l = append(l, x.Label...)
		}
	}
	for _, n := range slices.Clone(l) {
		l = append(l, n-6, n-5, n-1, n+1, n+p/2, n-p/2)
	}
	for n := -3; n < 43; n++ {
		l = append(l, n)
	}
	slices.Sort(l)
	return slices.Compact(l)
}

// wantNumbers fails the test if the view, where the number k of the label i is another one, is not good exactly for those numbers for which good is true.
func wantNumbers(t *testing.T, from func() api.View, i, k int, good func(n int) bool) {
	t.Helper()
	for _, n := range numbers() {
		v := from()
		v.Labels[i].Label[k] = n
		if is := wantView(t, v); is != good(n) {
			t.Errorf("label %d, number %d: %d: %v", i, k, n, is)
		}
	}
}

// within returns what reports whether a number is from least to most.
func within(least, most int) func(n int) bool {
	return func(n int) bool { return least <= n && n <= most }
}

// but returns what reports whether a number is another one than n.
func but(n int) func(n int) bool { return func(x int) bool { return x != n } }

// anything is true of all numbers.
func anything(int) bool { return true }

// P13.1: what no condition looks at does not matter.
func TestNotLookedAt(t *testing.T) {
	for _, from := range views() {
		wantVariants(t,
			variant{from, all(), true},
			variant{from, func(v *api.View) { v.Depots = []int{99, -7, 99, 5, 5} }, true},
			variant{from, func(v *api.View) { v.Vertex.Side = 2 }, true},
			variant{from, func(v *api.View) { v.Vertex.Side = math.MinInt }, true},
			variant{from, func(v *api.View) { v.Edges[0].Cap, v.Edges[1].Cap = -1, 1001 }, true},
			variant{from, func(v *api.View) { slices.Reverse(v.Labels) }, true},
			variant{from, func(v *api.View) {
				for i, e := range v.Edges {
					v.Edges[i].Directed = !e.Directed
				}
			}, true},
			variant{from, func(v *api.View) {
				for i, e := range v.Edges {
					v.Edges[i].From, v.Edges[i].To = e.To, e.From
				}
			}, true},
			variant{from, func(v *api.View) {
				v.Labels = append(v.Labels, api.Named{ID: 9, Label: []int{math.MaxInt}}, api.Named{ID: -1}, api.Named{ID: 24, Label: []int{7, -7, 7}}, api.Named{ID: 0, Label: []int{3, 3, 3}})
			}, true},
		)
	}
}

// P13.1: each number of the labels in turn: of the vertex, of its mate, of a neighbour whose edge is tight, of one whose edge is not, and of one without a usable edge.
func TestNumbersOfLabels(t *testing.T) {
	for k, n := range matched().Labels[2].Label {
		wantNumbers(t, matched, 2, k, within(n, n))
	}
	for k, n := range free().Labels[2].Label {
		wantNumbers(t, free, 2, k, within(n, n))
	}
	wantNumbers(t, plain, 2, 0, within(7, 7))
	wantNumbers(t, plain, 2, 1, within(p, p))
	for k, n := range matched().Labels[1].Label {
		wantNumbers(t, matched, 1, k, within(n, n))
	}
	wantNumbers(t, plain, 1, 0, within(7, 7))
	wantNumbers(t, plain, 1, 1, within(2*price7-p, 2*price7-p))
	wantNumbers(t, free, 1, 0, anything)
	wantNumbers(t, free, 1, 1, within(2*price7-p-p/2, most))
	for _, from := range views() {
		l := from().Labels
		wantNumbers(t, from, 0, 0, anything)
		wantNumbers(t, from, 0, 1, within(l[0].Label[1], most))
		wantNumbers(t, from, 3, 0, anything)
		wantNumbers(t, from, 4, 0, anything)
		wantNumbers(t, from, 4, 1, within(0, most))
		wantNumbers(t, from, 4, 2, anything)
		wantNumbers(t, from, 4, 3, anything)
		wantNumbers(t, from, 4, 4, anything)
		wantNumbers(t, from, 4, 5, within(1, most))
	}
	for _, from := range []func() api.View{matched, free} {
		l := from().Labels
		for k, n := range l[0].Label[2:] {
			wantNumbers(t, from, 0, k+2, within(n, n))
		}
		wantNumbers(t, from, 3, 1, within(l[3].Label[1]-5, most))
		wantNumbers(t, from, 3, 2, but(2))
		wantNumbers(t, from, 3, 3, within(math.MinInt, 8))
		wantNumbers(t, from, 3, 4, anything)
		wantNumbers(t, from, 3, 5, within(1, most))
		for k, n := range l[3].Label[6:] {
			wantNumbers(t, from, 3, k+6, within(n, n))
		}
	}
	wantNumbers(t, plain, 3, 1, within(2*price9-p, most))
	for i := range 2 {
		wantNumbers(t, plain, i, 2, anything)
		wantNumbers(t, plain, i, 3, anything)
		wantNumbers(t, plain, i, 4, anything)
		wantNumbers(t, plain, i, 5, within(1, most))
	}
}

// P13.1: the numbers of edges are from 0 to 39 and strictly ascending, and their weights from -1000 to 1000.
func TestEdgesOfViews(t *testing.T) {
	for _, from := range views() {
		for i, e := range from().Edges {
			before, after := -1, 40
			if i > 0 {
				before = from().Edges[i-1].ID
			}
			if i < 6 {
				after = from().Edges[i+1].ID
			}
			needed := i == 1 && from().Labels[2].Label[0] == 7
			for _, id := range []int{math.MinInt, -40, -1, 0, 3, 4, 7, 8, 9, 12, 20, 38, 39, 40, 41, 64, math.MaxInt} {
				// With other numbers, prices and the edge of the matching are others, but not if the weight is negative.
				other := func(v *api.View) { v.Edges[i].ID, v.Edges[i].Weight = id, -1 }
				wantVariants(t, variant{from, other, before < id && id < after && !needed})
			}
			for _, w := range []int{math.MinInt, -1002, -1001, -1000, -999, 1000, 1001, 1002, math.MaxInt} {
				// Only the loop may have a great weight: for all others, the duals are too small then.
				good := -1000 <= w && (w < 0 || w <= 1000 && e.From == e.To) && !needed
				wantVariants(t, variant{from, func(v *api.View) { v.Edges[i].Weight = w }, good})
			}
		}
		wantVariants(t,
			variant{from, edges(func(l []api.Edge) []api.Edge { slices.Reverse(l); return l }), false},
			variant{from, edges(func(l []api.Edge) []api.Edge { return append(l, l[6]) }), false},
			variant{from, edges(func(l []api.Edge) []api.Edge { return append(l, l...) }), false},
			variant{from, edges(func(l []api.Edge) []api.Edge { return slices.Insert(l, 0, l[0]) }), false},
			variant{from, edges(func(l []api.Edge) []api.Edge { l[5], l[6] = l[6], l[5]; return l }), false},
			variant{from, edges(func(l []api.Edge) []api.Edge { return append(l, edge(40, 5, 5, 0)) }), false},
			variant{from, edges(func(l []api.Edge) []api.Edge { return slices.Insert(l, 0, edge(-1, 5, 5, 0)) }), false},
			variant{from, edges(func(l []api.Edge) []api.Edge { return slices.Insert(l, 0, edge(0, 5, 5, 0)) }), true},
			variant{from, edges(func(l []api.Edge) []api.Edge { return slices.Insert(l, 0, edge(3, 2, 3, 0)) }), false},
		)
	}
}

// P13.1: the ends of edges are from 0 to 23, and one of them is the vertex.
func TestEndsOfEdges(t *testing.T) {
	nobody := func(v *api.View) { v.Labels = append(v.Labels, api.Named{ID: -1, Label: []int{7, most}}) }
	for _, from := range views() {
		for i := range from().Edges {
			for _, id := range []int{math.MinInt, -2, -1, 24, 25, 40, math.MaxInt} {
				known := func(v *api.View) {
					v.Labels = append(v.Labels, api.Named{ID: id, Label: []int{-1, most}})
				}
				wantVariants(t,
					variant{from, all(known, func(v *api.View) { v.Edges[i].From = id }), false},
					variant{from, all(known, func(v *api.View) { v.Edges[i].To = id }), false},
					variant{from, all(known, func(v *api.View) { v.Edges[i].From, v.Edges[i].To = id, 5 }), false},
					variant{from, all(known, func(v *api.View) { v.Edges[i].From, v.Edges[i].To = 5, id }), false},
				)
			}
			for _, id := range []int{0, 1, 22, 23} {
				known := func(v *api.View) {
					v.Labels = append(v.Labels, api.Named{ID: id, Label: []int{-1, most}})
				}
				away := func(v *api.View) { v.Edges[i].From, v.Edges[i].To = id, 5 }
				good := i != 1 || from().Labels[2].Label[0] == -1
				wantVariants(t,
					variant{from, all(known, away), good},
					variant{from, away, false},
					// No end is the vertex, whatever is said of the end that there is not.
					variant{from, all(known, func(v *api.View) { v.Edges[i].From, v.Edges[i].To = id, id }), false},
					variant{from, all(known, func(v *api.View) { v.Edges[i].From, v.Edges[i].To = id, 2 }), false},
					variant{from, all(known, nobody, func(v *api.View) { v.Edges[i].From, v.Edges[i].To = id, 2 }), false},
					variant{from, all(known, nobody, func(v *api.View) { v.Edges[i].From, v.Edges[i].To, v.Edges[i].Weight = id, id, -1 }), false},
				)
			}
		}
	}
}

// P13.1: the vertex has a number from 0 to 23, whatever is said of it.
func TestNumbersOfVertices(t *testing.T) {
	for _, id := range []int{math.MinInt, -2, -1, 0, 1, 22, 23, 24, 25, 40, math.MaxInt} {
		good := 0 <= id && id <= 23
		lonely := func(l ...int) func() api.View {
			return func() api.View {
				return api.View{Vertex: api.Vertex{ID: id}, Labels: []api.Named{{ID: id, Label: l}}}
			}
		}
		with := func(w int, label ...int) func(v *api.View) {
			return func(v *api.View) {
				v.Edges = []api.Edge{edge(7, id, 3, w)}
				v.Labels = append(v.Labels, api.Named{ID: 3, Label: label})
			}
		}
		wantVariants(t,
			variant{lonely(-1, 0), all(), good},
			variant{lonely(-1, 1), all(), false},
			variant{lonely(7, 0), all(), false},
			variant{lonely(), all(), false},
			variant{lonely(-1, 0, 0, 3, id, 5), all(), good},
			variant{lonely(-1, 0, 0, 3, 2, 5), all(), false},
			variant{lonely(-1, 0, 4, 3, id, 5, 0, 4, id, most), all(), good},
			variant{lonely(-1, 0), func(v *api.View) { v.Edges = []api.Edge{edge(7, id, id, 2)} }, good},
			variant{lonely(7, price7), func(v *api.View) { v.Edges = []api.Edge{edge(7, id, id, 2)} }, false},
			variant{lonely(7, 2*price7), func(v *api.View) { v.Edges = []api.Edge{edge(7, id, id, 2)} }, false},
			variant{lonely(-1, 0), with(2, 9, 2*price7), good},
			variant{lonely(-1, 0), with(2, 9, 2*price7-1), false},
			variant{lonely(-1, 0), with(-1, 9, 0), good},
			variant{lonely(7, 0), with(2, 7, 2*price7), good},
			variant{lonely(7, p), with(2, 7, 2*price7-p), good},
			variant{lonely(7, p), with(2, 6, 2*price7-p), false},
		)
	}
}

// P13.1: the labels that must be there: those of the vertex and of all other ends, each with two numbers, and four for each set.
func TestLabelsOfViews(t *testing.T) {
	for _, from := range views() {
		for i := range 5 {
			whole := from().Labels[i].Label
			wantVariants(t,
				variant{from, func(v *api.View) { v.Labels = slices.Delete(v.Labels, i, i+1) }, false},
				variant{from, func(v *api.View) { v.Labels[i].ID = 23 }, false},
				variant{from, func(v *api.View) { v.Labels[i].Label = nil }, false},
			)
			for n := range whole {
				// Without sets that are needed, sums are too small; those of 8 are not needed.
				good := n == 2 && (i == 4 || len(from().Labels[2].Label) == 2)
				wantVariants(t, variant{from, func(v *api.View) { v.Labels[i].Label = whole[:n] }, good})
			}
			for n := 1; n < 9; n++ {
				more := []int{3, 40, 5, 77, 6, 41, 5, 78}[:n]
				good := n%4 == 0
				wantVariants(t, variant{from, func(v *api.View) { v.Labels[i].Label = append(slices.Clone(whole), more...) }, good})
			}
			if i == 2 {
				continue
			}
			// Without edges to it, a label may be anything.
			id := from().Labels[i].ID
			apart := edges(func(l []api.Edge) []api.Edge {
				return slices.DeleteFunc(l, func(e api.Edge) bool { return e.From == id || e.To == id })
			})
			good := i != 1 || from().Labels[2].Label[0] != 7
			wantVariants(t,
				variant{from, apart, good},
				variant{from, all(apart, func(v *api.View) { v.Labels = slices.Delete(v.Labels, i, i+1) }), good},
				variant{from, all(apart, say(i, 7, -1, 9, 9)), good},
				variant{from, all(apart, say(i)), good},
			)
		}
		wantVariants(t,
			variant{from, func(v *api.View) { v.Labels = nil }, false},
			variant{from, func(v *api.View) { v.Labels = v.Labels[2:3] }, false},
			variant{from, func(v *api.View) { v.Vertex.ID = 2 }, false},
			variant{from, func(v *api.View) { v.Vertex.ID = 7 }, false},
			variant{from, func(v *api.View) { v.Vertex.ID = -1 }, false},
		)
	}
}

// P13.1: of several labels of a vertex, the first one counts, whatever it has.
func TestSeveralLabels(t *testing.T) {
	for _, from := range views() {
		for i := range 5 {
			again := func(l ...int) func(v *api.View) {
				return func(v *api.View) { v.Labels = append(v.Labels, api.Named{ID: v.Labels[i].ID, Label: l}) }
			}
			before := func(l ...int) func(v *api.View) {
				return func(v *api.View) {
					v.Labels = slices.Insert(v.Labels, 0, api.Named{ID: v.Labels[i].ID, Label: l})
				}
			}
			right := slices.Clone(from().Labels[i].Label)
			wantVariants(t,
				variant{from, again(), true},
				variant{from, again(math.MaxInt, 9, 4), true},
				variant{from, again(4, 0), true},
				variant{from, before(right...), true},
				variant{from, all(before(right...), say(i+1)), true},
				variant{from, before(), false},
				variant{from, before(1, 2, 3), false},
				variant{from, before(-2, -1), false},
				variant{from, before(0, 0, 1, 3, 1, 0), false},
			)
		}
	}
}

// rising returns the numbers of n sets with ascending sizes, in which the vertex 5 is the base.
func rising(n int) []int {
	var l []int
	for i := range n {
		l = append(l, i%3, 3+2*i, 5, i+1)
	}
	return l
}

// P13.1: a label has at most 11 sets, whose sizes are strictly ascending, in any steps.
func TestManySets(t *testing.T) {
	for _, from := range []func() api.View{plain, free} {
		for n := range 25 {
			sets := rising(n)
			more := func(i int) func(v *api.View) {
				return func(v *api.View) { v.Labels[i].Label = append(v.Labels[i].Label[:2:2], sets...) }
			}
			// What 5 alone has adds nothing to a sum.
			wantVariants(t,
				variant{plain, more(2), n <= 11},
				variant{plain, more(1), n <= 11},
				variant{plain, more(0), n <= 11},
				variant{plain, more(4), n <= 11},
				variant{from, more(4), n <= 11},
			)
		}
	}
	for _, c := range []struct {
		sizes []int
		good  bool
	}{
		{[]int{1, 2, 3}, true},
		{[]int{-5, 0, 40}, true},
		{[]int{math.MinInt, math.MaxInt}, true},
		{[]int{3, 3}, false},
		{[]int{3, 2}, false},
		{[]int{math.MaxInt, math.MinInt}, false},
		{[]int{3, 5, 7, 7}, false},
		{[]int{3, 5, 4, 9}, false},
		{[]int{3, 5, 7, 9, 1}, false},
	} {
		sets := func(i, base int) func(v *api.View) {
			return func(v *api.View) {
				for k, n := range c.sizes {
					v.Labels[i].Label = append(v.Labels[i].Label, 20+k, n, base, 1)
				}
			}
		}
		short := all(say(0, 31, 2*price4), say(1, 7, 2*price7-p), say(4, -1, 0))
		for i, base := range []int{77, 77, 5, 77, 77} {
			wantVariants(t, variant{plain, all(short, sets(i, base)), c.good})
		}
	}
}

// list returns l.
func list(l ...int) []int { return l }

// P13.1: two sets are the same if they have the same least and the same size; then they have the same base and the same dual, and add it to the sum.
func TestSharedSets(t *testing.T) {
	// 5 and 3 have the given sets, and what their edge needs is the rest.
	with := func(rest int, own, other []int) func(v *api.View) {
		return func(v *api.View) {
			v.Edges = v.Edges[1:2]
			v.Labels[2].Label = append([]int{7, p}, own...)
			v.Labels[1].Label = append([]int{7, 2*price7 - p - rest}, other...)
		}
	}
	wantVariants(t,
		variant{matched, with(0, nil, nil), true},
		variant{matched, with(4, nil, nil), false},
		variant{matched, with(4, list(0, 3, 9, 4), list(0, 3, 9, 4)), true},
		variant{matched, with(3, list(0, 3, 9, 4), list(0, 3, 9, 4)), false},
		variant{matched, with(5, list(0, 3, 9, 4), list(0, 3, 9, 4)), false},
		variant{matched, with(0, list(0, 3, 9, 4), list(0, 3, 9, 4)), false},
		variant{matched, with(4, list(0, 3, 9, 4), list(0, 3, 9, 5)), false},
		variant{matched, with(5, list(0, 3, 9, 4), list(0, 3, 9, 5)), false},
		variant{matched, with(4, list(0, 3, 9, 4), list(0, 3, 8, 4)), false},
		variant{matched, with(4, list(0, 3, 5, 4), list(0, 3, 9, 4)), false},
		variant{matched, with(4, list(0, 3, 9, 4), list(0, 5, 9, 4)), false},
		variant{matched, with(4, list(0, 3, 9, 4), list(1, 3, 9, 4)), false},
		// Not the same one: 5 is the base of its set, or 3 has it not.
		variant{matched, with(0, list(0, 3, 9, 4), list(1, 3, 9, 4)), false},
		variant{matched, with(0, list(0, 3, 5, 4), list(1, 3, 9, 4)), true},
		variant{matched, with(0, list(0, 3, 5, 4), list(0, 5, 5, 4)), true},
		variant{matched, with(0, list(0, 3, 5, 4), nil), true},
		variant{matched, with(0, nil, list(0, 3, 5, 4)), true},
		variant{matched, with(0, list(0, 3, 3, 4), nil), false},
		// Several ones, at other places.
		variant{matched, with(10, list(0, 3, 9, 4, 0, 7, 9, 6), list(0, 3, 9, 4, 0, 7, 9, 6)), true},
		variant{matched, with(6, list(0, 3, 5, 4, 0, 7, 9, 6), list(0, 7, 9, 6)), true},
		variant{matched, with(6, list(0, 7, 9, 6), list(0, 3, 5, 4, 0, 7, 9, 6)), true},
		variant{matched, with(6, list(0, 3, 5, 4, 0, 7, 9, 6), list(4, 3, 5, 4, 0, 7, 9, 6)), true},
		variant{matched, with(6, list(0, 3, 1, 4, 0, 7, 9, 6), list(4, 3, 5, 4, 0, 7, 9, 6)), false},
		variant{matched, with(10, list(0, 3, 9, 4, 0, 7, 9, 6), list(0, 3, 9, 4, 0, 7, 9, 7)), false},
		variant{matched, with(4, list(0, 3, 9, 4, 0, 7, 5, 6), list(0, 3, 9, 4, 0, 9, 5, 6)), true},
		variant{matched, with(4, list(0, 3, 9, 4, 0, 7, 4, 6), list(0, 3, 9, 4, 0, 9, 4, 6)), false},
		// Duals from 1 on, whether both have the set or not.
		variant{matched, with(0, list(0, 3, 9, 0), list(0, 3, 9, 0)), false},
		variant{matched, with(-1, list(0, 3, 9, -1), list(0, 3, 9, -1)), false},
		variant{matched, with(1, list(0, 3, 9, 1), list(0, 3, 9, 1)), true},
		variant{matched, with(0, list(0, 3, 5, 0), nil), false},
		variant{matched, with(0, nil, list(0, 3, 5, 0)), false},
	)
}

// P13.1: the same, where the edge is not that of the matching, if it is usable.
func TestSetsOfOthers(t *testing.T) {
	lone := func(sum int, own, other []int) func(v *api.View) {
		return func(v *api.View) {
			v.Edges = v.Edges[2:3]
			v.Labels[2].Label = append([]int{-1, 0}, own...)
			v.Labels[3].Label = append([]int{8, 2*price9 - sum}, other...)
		}
	}
	for w, usable := range map[int]bool{4: true, -1: false} {
		weight := func(v *api.View) { v.Edges[0].Weight = w }
		wantVariants(t,
			variant{matched, all(lone(0, nil, nil), weight), true},
			variant{matched, all(lone(4, nil, nil), weight), !usable},
			variant{matched, all(lone(4, list(0, 3, 5, 4), list(0, 3, 5, 4)), weight), true},
			variant{matched, all(lone(5, list(0, 3, 5, 4), list(0, 3, 5, 4)), weight), !usable},
			variant{matched, all(lone(0, list(0, 3, 5, 4), list(0, 3, 5, 4)), weight), true},
			variant{matched, all(lone(0, list(0, 3, 5, 4), list(0, 3, 5, 5)), weight), !usable},
			variant{matched, all(lone(0, list(0, 3, 5, 4), list(0, 3, 6, 4)), weight), !usable},
			variant{matched, all(lone(4, list(0, 3, 5, 4), list(0, 5, 5, 4)), weight), !usable},
			variant{matched, all(lone(0, list(0, 3, 5, 4), list(0, 5, 6, 9)), weight), true},
			variant{matched, all(lone(0, list(0, 3, 6, 4), list(0, 3, 6, 4)), weight), false},
		)
	}
}

// P13.1: a vertex that is matched has a usable edge that is tight, whose other end says the same; its mate is in all of its sets but those of which it is the base.
func TestMatched(t *testing.T) {
	for _, from := range []func() api.View{matched, plain} {
		for n := -2; n < 42; n++ {
			wantVariants(t,
				// Whatever all neighbours say of their edges; 4 is tight, too, and in one of the views also 9.
				variant{from, all(put(2, 0, n), put(0, 0, n), put(1, 0, n), put(3, 0, n), put(4, 0, n)), n == 7 || n == 4 || n == 9 && len(from().Labels[2].Label) == 2},
				variant{from, all(put(2, 0, n), put(1, 0, n)), n == 7},
				variant{from, all(put(2, 0, n), put(0, 0, n)), n == 7 || n == 4},
				variant{from, put(1, 0, n), n == 7},
				variant{from, put(2, 0, n), n == 7},
			)
		}
		wantVariants(t,
			variant{from, put(2, 0, -1), false},
			variant{from, put(2, 0, -1, 0), false},
			variant{from, edges(func(l []api.Edge) []api.Edge { return slices.Delete(l, 1, 2) }), false},
			variant{from, edges(func(l []api.Edge) []api.Edge { return l[1:2] }), true},
			variant{from, edges(func(l []api.Edge) []api.Edge { return nil }), false},
			variant{from, edges(func(l []api.Edge) []api.Edge { l[1].Weight = 1; return l }), false},
			variant{from, edges(func(l []api.Edge) []api.Edge { l[1].Weight = 3; return l }), false},
			variant{from, edges(func(l []api.Edge) []api.Edge { l[1].Weight = 1; return l[1:2] }), false},
			// The parallel edge, if its price is the sum.
			variant{from, all(put(2, 0, 39), put(1, 0, 39)), false},
			variant{from, func(v *api.View) {
				v.Edges = v.Edges[6:]
				v.Labels[2].Label[0], v.Labels[1].Label[0] = 39, 39
				v.Labels[1].Label[1] -= 2 * (price7 - price39)
			}, true},
			variant{from, func(v *api.View) {
				v.Labels[2].Label[0], v.Labels[1].Label[0] = 39, 39
				v.Labels[1].Label[1] -= 2 * (price7 - price39)
			}, false},
		)
	}
	// The loop, and an edge with a negative weight, are no edges of a matching, even if the numbers fit.
	for _, w := range []int{-1, -1000} {
		wantVariants(t, variant{plain, func(v *api.View) {
			v.Edges = v.Edges[1:2]
			v.Edges[0].Weight, v.Labels[2].Label, v.Labels[1].Label = w, []int{7, 0}, []int{7, 0}
		}, false})
	}
	wantVariants(t, variant{plain, func(v *api.View) {
		v.Edges = v.Edges[4:5]
		v.Labels[2].Label = []int{20, 1000*p + 1<<19}
	}, false})
	// Odd prices are made of two duals that differ.
	for n := -1; n < 4; n++ {
		for k := -1; k < 4; k++ {
			wantVariants(t, variant{plain, func(v *api.View) {
				v.Edges = []api.Edge{edge(39, 5, 3, 0)}
				v.Labels[2].Label, v.Labels[1].Label = []int{39, n}, []int{39, k}
			}, n >= 0 && k >= 0 && n+k == 2})
		}
	}
}

// P13.1: a vertex without an edge has no dual, and is the base of all of its sets.
func TestFree(t *testing.T) {
	for n := -3; n < 42; n++ {
		wantVariants(t,
			variant{free, put(2, 0, n), n == -1},
			variant{free, all(put(2, 0, n), put(0, 0, n), put(1, 0, n), put(3, 0, n), put(4, 0, n)), n == -1 || n == 4 || n == 7},
			variant{free, all(edges(func(l []api.Edge) []api.Edge { return nil }), put(2, 0, n)), n == -1},
		)
	}
	for k := range 3 {
		for _, n := range []int{-1, 2, 3, 4, 6, 11, 24} {
			base := all(put(0, 4+4*k, n), put(2, 4+4*k, n))
			if k > 0 {
				base = all(base, put(1, 4*k, n))
			}
			if k > 1 {
				base = all(base, put(3, 8, n))
			}
			wantVariants(t, variant{free, base, false})
		}
	}
	wantVariants(t,
		variant{free, all(put(2, 1, 1), put(0, 1, 2*price4)), false},
		variant{free, edges(func(l []api.Edge) []api.Edge { return nil }), true},
		variant{free, all(say(2, -1, 0), put(0, 1, 2*price4), put(1, 1, 2*price7), put(3, 1, 2*price9)), true},
		variant{free, all(say(2, -1, 0), put(0, 1, 2*price4-1), put(1, 1, 2*price7), put(3, 1, 2*price9)), false},
	)
}

// P13.1: Count returns a weight, of views that are good and others.
func TestCount(t *testing.T) {
	one := func(label []int, edges ...api.Edge) api.View {
		return api.View{Vertex: api.Vertex{ID: 4, Side: 2}, Edges: edges, Labels: []api.Named{{ID: 4, Label: label}}}
	}
	for i, c := range []struct {
		v    api.View
		want int
	}{
		{one([]int{7, 0}, edge(7, 4, 5, 12)), 12},
		{one([]int{7, 0}, edge(7, 5, 4, 12)), 12},
		{one([]int{7, 0}, to(7, 4, 5, 12)), 12},
		{one([]int{7, 0}, edge(7, 4, 3, 12)), 0},
		{one([]int{7, 0}, edge(7, 3, 4, 12)), 0},
		{one([]int{7, 0}, edge(7, 4, 4, 12)), 0},
		{one([]int{7, 0}, edge(7, 3, 5, 12)), 0},
		{one([]int{7, 0}, edge(7, 6, 5, 12)), 0},
		{one([]int{7}, edge(7, 4, 5, 12)), 12},
		{one([]int{7, 0, 3}, edge(7, 4, 5, 12)), 12},
		{one([]int{7, -9, 0, 0, 0, 0, 0}, edge(7, 4, 99, 12)), 12},
		{one([]int{7, 0}, edge(6, 4, 5, 11), edge(7, 4, 5, 12), edge(7, 4, 5, 13)), 12},
		{one([]int{7, 0}, edge(7, 4, 3, 12), edge(7, 4, 5, 13)), 0},
		{one([]int{7, 0}, edge(8, 4, 5, 12), edge(7, 4, 5, -13)), -13},
		{one([]int{7, 0}, edge(7, 4, math.MaxInt, math.MaxInt)), math.MaxInt},
		{one([]int{-1, 0}, edge(-1, 4, 5, 99)), 99},
		{one([]int{math.MinInt}, edge(math.MinInt, 4, 5, math.MinInt)), math.MinInt},
		{one([]int{-1, 0}, edge(7, 4, 5, 12)), 0},
		{one([]int{8, 0}, edge(7, 4, 5, 12)), 0},
		{one([]int{7, 0}), 0},
		{one(nil, edge(0, 4, 5, 12)), 0},
		{api.View{}, 0},
		{api.View{Edges: []api.Edge{edge(0, 0, 1, 3)}}, 0},
		{api.View{Edges: []api.Edge{edge(0, 0, 1, 3)}, Labels: []api.Named{{ID: 1, Label: []int{0, 0}}}}, 0},
		{api.View{Edges: []api.Edge{edge(0, 0, 1, 3)}, Labels: []api.Named{{ID: 1}, {Label: []int{0, 0}}, {Label: []int{2, 0}}}}, 3},
		{api.View{Edges: []api.Edge{edge(0, 0, 1, 3)}, Labels: []api.Named{{}, {Label: []int{0, 0}}}}, 0},
		{api.View{Edges: []api.Edge{edge(0, 0, 1, 3)}, Labels: []api.Named{{Label: []int{2, 0}}, {Label: []int{0, 0}}}}, 0},
		{api.View{Vertex: api.Vertex{ID: -3}, Edges: []api.Edge{edge(5, -3, -2, 3)}, Labels: []api.Named{{ID: -3, Label: []int{5, 0}}}}, 3},
		{api.View{Vertex: api.Vertex{ID: -3}, Edges: []api.Edge{edge(5, -4, -3, 3)}, Labels: []api.Named{{ID: -3, Label: []int{5, 0}}}}, 0},
		{matched(), 0},
		{free(), 0},
		{plain(), 0},
	} {
		if n := blossom.Count(c.v); n != c.want || n != countOf(c.v) {
			t.Errorf("%d: %d", i, n)
		}
	}
	v := matched()
	v.Edges[1].From = 22
	if n := blossom.Count(v); n != 2 {
		t.Error(n)
	}
}

// P13.1: all small views of the vertex 1 with two edges, which lead to one neighbour or to two of them, or to itself, between all that they may say.
func TestSmallViews(t *testing.T) {
	good := 0
	duals := []int{-1, 0, 1, 2, 3, 4, 5}
	sets := [][]int{nil, {0, 3, 0, 1}, {0, 3, 1, 1}, {0, 3, 1, 2}, {0, 5, 1, 1}, {1, 3, 1, 1}, {0, 3, 0, 1, 0, 5, 1, 2}, {0, 3, 0, 1, 1, 5, 0, 2}}
	for _, ends := range [][2]int{{0, 2}, {0, 0}, {0, 1}} {
		v := api.View{Vertex: api.Vertex{ID: 1}, Edges: []api.Edge{edge(38, 1, ends[0], 0), to(39, ends[1], 1, 0)}}
		for _, own := range labelsBetween([]int{-1, 38, 39}, duals, sets) {
			for _, x := range labelsBetween([]int{-1, 38, 39}, duals, sets) {
				for _, y := range labelsBetween([]int{-1, 39}, []int{0, 1, 2}, sets[:3]) {
					v.Labels = []api.Named{{ID: ends[1], Label: y}, {ID: 0, Label: x}, {ID: 1, Label: own}}
					if wantView(t, v) {
						good++
					}
				}
			}
		}
	}
	if good < 5000 {
		t.Error("good:", good)
	}
}

// labelsBetween returns all labels with these numbers and sets.
func labelsBetween(edges, duals []int, sets [][]int) [][]int {
	var l [][]int
	for _, e := range edges {
		for _, d := range duals {
			for _, s := range sets {
				l = append(l, append([]int{e, d}, s...))
			}
		}
	}
	return l
}

// spoil changes something in v; now and then nothing that matters.
func spoil(r *rand.Rand, v *api.View) {
	n := []int{-2, -1, 0, 1, 2, 3, 5, 23, 24, 39, 40, -1001, 1001, most, most + 1, math.MinInt, math.MaxInt}[r.Intn(17)]
	if len(v.Edges) > 0 && r.Intn(4) == 0 {
		spoilEdge(r, v, n)
		return
	}
	if len(v.Labels) == 0 || r.Intn(20) == 0 {
		v.Vertex.ID, v.Vertex.Side = v.Vertex.ID+r.Intn(30)/29, n
		return
	}
	i := r.Intn(len(v.Labels))
	x := &v.Labels[i]
	switch r.Intn(12) {
	case 0:
		v.Labels = slices.Delete(v.Labels, i, i+1)
	case 1:
		v.Labels = slices.Insert(v.Labels, i, api.Named{ID: r.Intn(24), Label: []int{-1, 0}[:r.Intn(2)*2]})
	case 2:
		v.Labels = append(v.Labels, api.Named{ID: x.ID, Label: []int{n}})
	case 3:
		x.Label = append(x.Label, n, n, n, n)[:max(2, len(x.Label)+r.Intn(9)-4)]
	case 4:
		x.Label = append(x.Label, r.Intn(3), 30+n%100, v.Vertex.ID, 1+r.Intn(5))
	case 5:
		if len(x.Label) > 6 {
			x.Label = slices.Delete(x.Label, 2, 6)
		}
	case 6:
		if len(x.Label) > 0 {
			x.Label[0] = n
		}
	case 7, 8:
		if len(x.Label) > 1 {
			x.Label[1] += []int{1, -1, p, 2*r.Intn(p) - p}[r.Intn(4)]
		}
	default:
		if len(x.Label) > 0 {
			k := r.Intn(len(x.Label))
			x.Label[k] = []int{n, x.Label[k] + 1, x.Label[k] - 1}[r.Intn(3)]
		}
	}
}

// spoilEdge changes an edge of v.
func spoilEdge(r *rand.Rand, v *api.View, n int) {
	i := r.Intn(len(v.Edges))
	e := &v.Edges[i]
	switch r.Intn(10) {
	case 0:
		e.ID = n
	case 1:
		e.From, e.To = e.To, e.From
	case 2:
		e.To = n
	case 3:
		e.Weight = n
	case 4:
		e.Directed = !e.Directed
	case 5:
		v.Edges = slices.Delete(v.Edges, i, i+1)
	case 6:
		e.ID++
	case 7:
		e.Weight += r.Intn(3) - 1
	case 8:
		v.Edges = append(v.Edges, *e)
	case 9:
		e.Weight -= r.Intn(20)
	}
}

// P13.1: views of all kinds of graphs, good ones and such in which something was changed.
func TestSpoiledViews(t *testing.T) {
	r := rand.New(rand.NewSource(2))
	good, bad := 0, 0
	for _, m := range samples() {
		l := m.labels()
		for _, x := range m.g.Vertices {
			for range 4 {
				v := viewOf(m.g, l, x.ID)
				v.Edges, v.Labels = slices.Clone(v.Edges), slices.Clone(v.Labels)
				for i, y := range v.Labels {
					v.Labels[i].Label = slices.Clone(y.Label)
				}
				for range r.Intn(4) {
					spoil(r, &v)
				}
				if wantView(t, v) {
					good++
				} else {
					bad++
				}
			}
		}
	}
	if good < 20000 || bad < 20000 {
		t.Error("too few of a kind:", good, bad)
	}
}
