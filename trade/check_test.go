package trade_test

import (
	"math"
	"math/rand"
	"slices"
	"testing"

	"clearway/api"
	"clearway/trade"
)

// wantView fails the test if Good or Count of v differ from the reference. It returns whether v is good.
func wantView(t *testing.T, v api.View) bool {
	t.Helper()
	good, count := trade.Good(v), trade.Count(v)
	if good != isGood(v) || count != countOf(v) {
		t.Fatalf("%+v: %v, %d", v, good, count)
	}
	return good
}

// The places of the labels in the views below.
const (
	of2 = iota
	of3
	own
	of6
	of8
	of10
	of11
)

// near returns a view of the vertex 5, with these labels of 2, 3, 5, 6, 8, 10 and 11. Its wishes lead to 2, 3, 6 and 8, and to it wishes of 2, 6 and 10; it prefers 4 to 7, 7 to 9 and 9 to 12. Other edges are an undirected one, a loop, and both between it and 11, which is said to be no trader.
func near(side int, labels ...[]int) api.View {
	v := api.View{Vertex: api.Vertex{ID: 5, Side: side}, Depots: []int{0}}
	v.Edges = []api.Edge{
		to(4, 5, 2, 9), to(7, 5, 3, 6), to(9, 5, 6, 6), to(12, 5, 8, 2), to(20, 2, 5, -3), to(22, 6, 5, 4), to(25, 10, 5, 0), edge(30, 5, 3, 1000), to(31, 5, 5, 1000), to(38, 5, 11, 1000), to(39, 11, 5, 1000),
	}
	for i, id := range []int{2, 3, 5, 6, 8, 10, 11} {
		v.Labels = append(v.Labels, api.Named{ID: id, Label: slices.Clone(labels[i])})
	}
	return v
}

// early returns a good view of a trader that leaves in the first round, with the edge to 2.
func early() api.View {
	return near(3, []int{1, 17, 4}, []int{8, -1, 3}, []int{1, 4, 0}, []int{1, 22, 6}, []int{2, 5, 1}, []int{9, 26, 7}, []int{0, -1, 0})
}

// waiting returns a good view of a trader that leaves in the round 5, with the edge to 6, and is kept waiting by 2.
func waiting() api.View {
	return near(3, []int{4, 17, 3}, []int{2, -1, 9}, []int{5, 9, 0}, []int{5, 30, 5}, []int{7, 12, 0}, []int{5, 25, 7}, []int{0, -1, 0})
}

// further returns a good view of a trader that leaves in the round 5, with the edge to 6, and is six steps from one that is kept waiting.
func further() api.View {
	return near(3, []int{3, 17, 3}, []int{2, -1, 9}, []int{5, 9, 6}, []int{5, 30, 5}, []int{7, 12, 0}, []int{5, 25, 7}, []int{0, -1, 0})
}

// alone returns a good view of a trader that leaves alone in the round 5.
func alone() api.View {
	return near(3, []int{2, 17, 3}, []int{4, -1, 9}, []int{5, -1, 0}, []int{1, 30, 5}, []int{3, 12, 0}, []int{5, 26, 7}, []int{0, -1, 0})
}

// lonely returns a good view of a trader that leaves alone in the first round, as it has no wishes: none of those to whom edges lead is said to be a trader.
func lonely() api.View {
	return near(3, []int{0, 17, 3}, []int{0, -1, 9}, []int{1, -1, 0}, []int{-1, 22, 5}, []int{-24000, 12, 0}, []int{5, 26, 7}, []int{0, 39, 0})
}

// plain returns what returns a good view of a vertex on that side, which is no trader.
func plain(side int) func() api.View {
	return func() api.View {
		return near(side, []int{4, 20, 3}, []int{2, -1, 9}, []int{0, -1, 0}, []int{5, 22, 5}, []int{7, 12, 0}, []int{5, 25, 7}, []int{0, -1, 0})
	}
}

// traders returns what returns the views of traders above, and others what returns those of other vertices.
func traders() []func() api.View {
	return []func() api.View{early, waiting, further, alone, lonely}
}

func others() []func() api.View {
	return []func() api.View{plain(0), plain(1), plain(2), plain(-1), plain(4), plain(math.MaxInt), plain(math.MinInt)}
}

// variant is a view, what is changed in it, and whether it is good then.
type variant struct {
	from func() api.View
	f    func(v *api.View)
	good bool
}

// wantVariants fails the test if Good says something else of one of l.
func wantVariants(t *testing.T, l ...variant) {
	t.Helper()
	for i, c := range l {
		v := c.from()
		c.f(&v)
		if good := wantView(t, v); good != c.good {
			t.Errorf("%d: %+v: %v", i, v, good)
		}
	}
}

// put returns what writes the numbers l to the label i, from the number k on.
func put(i, k int, l ...int) func(v *api.View) {
	return func(v *api.View) { copy(v.Labels[i].Label[k:], l) }
}

// all returns what does all of l.
func all(l ...func(v *api.View)) func(v *api.View) {
	return func(v *api.View) {
		for _, f := range l {
			f(v)
		}
	}
}

// numbers returns some numbers, among them those at which something changes.
func numbers() []int {
	l := []int{math.MinInt, -1 << 32, -24002, -24001, -24000, -23999, -1000, 1000, 23999, 24000, 24001, 24002, 1 << 32, math.MaxInt}
	for n := -4; n < 44; n++ {
		l = append(l, n)
	}
	return l
}

// wantNumbers fails the test if the view, where the number k of the label i is another one, is not good exactly for those numbers for which good is true.
func wantNumbers(t *testing.T, from func() api.View, i, k int, good func(n int) bool) {
	t.Helper()
	for _, n := range numbers() {
		wantVariants(t, variant{from, put(i, k, n), good(n)})
	}
}

// within returns what reports whether a number is from least to most, and but what reports whether it is possible and another one than n.
func within(least, most int) func(n int) bool {
	return func(n int) bool { return least <= n && n <= most }
}

func but(n int) func(m int) bool {
	return func(m int) bool { return m != n && -most <= m && m <= most }
}

const most = 24000

// P14.1: what no condition looks at does not matter.
func TestNotLookedAt(t *testing.T) {
	for _, from := range slices.Concat(traders(), others()) {
		wantVariants(t,
			variant{from, all(), true},
			variant{from, func(v *api.View) { v.Depots = []int{99, -7, 99, 5, 5} }, true},
			variant{from, func(v *api.View) { v.Edges[0].Cap, v.Edges[1].Cap = -1, 1001 }, true},
			variant{from, func(v *api.View) { slices.Reverse(v.Edges) }, true},
			variant{from, func(v *api.View) { slices.Reverse(v.Labels) }, true},
			variant{from, func(v *api.View) {
				v.Labels = append(v.Labels, api.Named{ID: 9, Label: []int{math.MaxInt, 0, 0}}, api.Named{ID: -1}, api.Named{ID: 24, Label: []int{7, 20, 7}}, api.Named{ID: 0, Label: []int{5, 25, 3}})
			}, true},
			// Undirected edges and loops, of any weight; loops may be undirected, too.
			variant{from, func(v *api.View) { v.Edges[7].From, v.Edges[7].To = 3, 5 }, true},
			variant{from, func(v *api.View) { v.Edges[8].Directed = false }, true},
			variant{from, func(v *api.View) { v.Edges[7].Weight, v.Edges[8].Weight = -1000, -1000 }, true},
			variant{from, func(v *api.View) {
				v.Edges = append(v.Edges, edge(0, 5, 2, 1000), edge(1, 6, 5, 1000), to(2, 5, 5, 1000), edge(3, 5, 5, -1000))
			}, true},
			variant{from, func(v *api.View) {
				v.Edges[4].Weight, v.Edges[5].Weight, v.Edges[6].Weight, v.Edges[9].Weight, v.Edges[10].Weight = 1000, -1000, 7, -1000, -1000
			}, true},
		)
	}
	for _, from := range others() {
		wantVariants(t, variant{from, func(v *api.View) {
			for i, e := range v.Edges {
				v.Edges[i].Directed, v.Edges[i].From, v.Edges[i].To = !e.Directed, e.To, e.From
			}
		}, true})
	}
}

// P14.1, the first condition: edges that no vertex can have.
func TestImpossibleEdges(t *testing.T) {
	for _, from := range slices.Concat(traders(), others()) {
		for i := range 11 {
			for _, n := range []int{-1, -2, 40, 41, 64, 1 << 32, math.MinInt, math.MaxInt} {
				wantVariants(t, variant{from, func(v *api.View) { v.Edges[i].ID = n }, false})
			}
			for _, n := range []int{-1001, 1001, -1002, 1 << 32, math.MinInt, math.MaxInt} {
				wantVariants(t, variant{from, func(v *api.View) { v.Edges[i].Weight = n }, false})
			}
			for _, n := range []int{-1, 24, 25, -2, 1 << 32, math.MinInt, math.MaxInt} {
				label := func(v *api.View) { v.Labels = append(v.Labels, api.Named{ID: n, Label: []int{0, -1, 0}}) }
				wantVariants(t,
					variant{from, all(label, func(v *api.View) { v.Edges[i].From, v.Edges[i].To = 5, n }), false},
					variant{from, all(label, func(v *api.View) { v.Edges[i].From, v.Edges[i].To = n, 5 }), false},
					variant{from, all(label, func(v *api.View) { v.Edges[i].From, v.Edges[i].To = n, n }), false},
					variant{from, all(label, put(own, 0, 0, -1, 0), func(v *api.View) {
						v.Vertex, v.Labels[own].ID = api.Vertex{ID: n}, n
						for k := range v.Edges {
							v.Edges[k].From, v.Edges[k].To = n, 2
						}
					}), false},
				)
			}
			for k := range 11 {
				if k != i {
					wantVariants(t, variant{from, func(v *api.View) { v.Edges[i].ID = v.Edges[k].ID }, false})
				}
			}
			wantVariants(t,
				variant{from, func(v *api.View) { v.Edges = append(v.Edges, v.Edges[i]) }, false},
				variant{from, func(v *api.View) { v.Edges[i].From, v.Edges[i].To = 2, 3 }, false},
				variant{from, func(v *api.View) { v.Edges[i].From, v.Edges[i].To = 6, 6 }, false},
			)
		}
		// Edges that are not at the vertex, whatever labels there are.
		for _, e := range []api.Edge{to(0, 2, 6, 0), to(0, 6, 2, 0), edge(0, 2, 6, 0), edge(0, 6, 8, 0), edge(0, 2, 3, 0), edge(0, 8, 3, 0), edge(0, 6, 6, 0), to(0, 2, 2, 0)} {
			wantVariants(t, variant{from, func(v *api.View) {
				v.Edges = append(v.Edges, e)
				v.Labels = append(v.Labels, api.Named{ID: -1, Label: []int{0, -1, 0}})
			}, false})
		}
		// The bounds themselves, at edges that play no part.
		wantVariants(t,
			variant{from, func(v *api.View) { v.Edges = append(v.Edges, edge(0, 5, 2, -1000), edge(1, 5, 2, 1000)) }, true},
			variant{from, func(v *api.View) {
				v.Edges = append(v.Edges, edge(0, 5, 0, 3), edge(1, 23, 5, 3))
				v.Labels = append(v.Labels, api.Named{ID: 0, Label: []int{3, 3, 3}}, api.Named{ID: 23, Label: []int{3, 3, 3}})
			}, true},
		)
	}
	// Without edges, a vertex may have any number, as no condition asks for another one.
	for _, id := range []int{0, 5, 23, 24, -1, math.MaxInt, math.MinInt} {
		for side := -1; side < 5; side++ {
			v := api.View{Vertex: api.Vertex{ID: id, Side: side}, Labels: []api.Named{{ID: id, Label: []int{0, -1, 0}}}}
			if wantView(t, v) != (side != 3) {
				t.Error(v)
			}
			v.Labels[0].Label = []int{1, -1, 0}
			if wantView(t, v) != (side == 3) {
				t.Error(v)
			}
		}
	}
}

// P14.1, the first condition: labels are there for the vertex and the other ends of its edges, and have three numbers that are possible.
func TestImpossibleLabels(t *testing.T) {
	wrong := [][]int{nil, {1}, {1, 2}, {0, -1}, {1, 2, 3, 4}, {0, -1, 0, 0}, {5, 9, 0, 7}}
	for _, from := range slices.Concat(traders(), others()) {
		for i := range 7 {
			wantVariants(t,
				variant{from, func(v *api.View) { v.Labels = slices.Delete(v.Labels, i, i+1) }, false},
				variant{from, func(v *api.View) { v.Labels[i].ID = 99 }, false},
				variant{from, func(v *api.View) { v.Labels = nil }, false},
			)
			for _, n := range []int{-24001, 24001, math.MinInt, math.MaxInt, 1 << 32} {
				for k := range 3 {
					wantVariants(t, variant{from, put(i, k, n), false})
					// The first label with three numbers counts, though they are not possible.
					wantVariants(t, variant{from, func(v *api.View) {
						x := slices.Clone(v.Labels[i].Label)
						x[k] = n
						v.Labels = append([]api.Named{{ID: v.Labels[i].ID, Label: x}}, v.Labels...)
					}, false})
				}
			}
			for _, x := range wrong {
				wantVariants(t,
					variant{from, func(v *api.View) { v.Labels[i].Label = x }, false},
					variant{from, func(v *api.View) {
						v.Labels = append([]api.Named{{ID: v.Labels[i].ID, Label: x}}, v.Labels...)
					}, true},
					variant{from, func(v *api.View) {
						v.Labels = append([]api.Named{{ID: v.Labels[i].ID, Label: x}, {ID: v.Labels[i].ID, Label: []int{24001, 0, 0}}}, v.Labels...)
					}, false},
					variant{from, func(v *api.View) { v.Labels = append(v.Labels, api.Named{ID: v.Labels[i].ID, Label: x}) }, true},
				)
			}
			wantVariants(t, variant{from, func(v *api.View) {
				v.Labels = append(v.Labels, api.Named{ID: v.Labels[i].ID, Label: []int{24001, 24001, 24001}}, api.Named{ID: v.Labels[i].ID, Label: []int{7, 20, 7}})
			}, true})
		}
		// Of several labels with three numbers, the first one counts.
		wantVariants(t,
			variant{from, func(v *api.View) {
				v.Labels = append([]api.Named{{ID: 5, Label: []int{6, 7, 1}}}, v.Labels...)
			}, false},
			variant{from, func(v *api.View) {
				v.Labels = append([]api.Named{{ID: 5, Label: []int{6, 7, 1, 0}}, v.Labels[own], {ID: 5, Label: []int{6, 7, 1}}}, v.Labels...)
			}, true},
		)
	}
	// An edge that plays no part asks for a label of its other end, too.
	for _, from := range slices.Concat(traders(), others()) {
		for _, e := range []api.Edge{to(0, 5, 14, -1000), to(0, 14, 5, 0), edge(0, 14, 5, 0)} {
			further := func(v *api.View) { v.Edges = append(v.Edges, e) }
			wantVariants(t,
				variant{from, further, false},
				variant{from, all(further, func(v *api.View) { v.Labels = append(v.Labels, api.Named{ID: 14, Label: []int{0, 0, 0}}) }), true},
				variant{from, all(further, func(v *api.View) { v.Labels = append(v.Labels, api.Named{ID: 14, Label: []int{0, 0}}) }), false},
				variant{from, all(further, func(v *api.View) { v.Labels = append(v.Labels, api.Named{ID: 14, Label: []int{0, 0, 24001}}) }), false},
			)
		}
	}
}

// P14.1: a vertex that is no trader has the label 0, -1, 0, and looks at no others.
func TestNoTrader(t *testing.T) {
	for _, from := range others() {
		wantNumbers(t, from, own, 0, within(0, 0))
		wantNumbers(t, from, own, 1, within(-1, -1))
		wantNumbers(t, from, own, 2, within(0, 0))
		for i := range 7 {
			for k := range 3 {
				if i != own {
					wantNumbers(t, from, i, k, within(-most, most))
				}
			}
		}
		for _, other := range traders() {
			v := other()
			v.Vertex.Side = from().Vertex.Side
			if wantView(t, v) {
				t.Error(v)
			}
		}
		wantVariants(t, variant{from, func(v *api.View) { v.Vertex.Side = 3 }, false})
	}
}

// P14.1: a trader that leaves in the first round, with the wish that it prefers to all others.
func TestEarly(t *testing.T) {
	wantNumbers(t, early, own, 0, within(1, 1))
	wantNumbers(t, early, own, 1, within(4, 4))
	wantNumbers(t, early, own, 2, within(0, 0))
	wantNumbers(t, early, of2, 0, within(1, 1))
	wantNumbers(t, early, of2, 1, but(20))
	wantNumbers(t, early, of2, 2, within(-most, most))
	wantNumbers(t, early, of6, 0, within(1, most))
	wantNumbers(t, early, of6, 1, within(22, 22))
	wantNumbers(t, early, of6, 2, within(-most, most))
	wantNumbers(t, early, of10, 0, within(-most, most))
	wantNumbers(t, early, of10, 1, but(25))
	wantNumbers(t, early, of11, 0, within(-most, 0))
	for _, i := range []int{of3, of8} {
		for k := range 3 {
			wantNumbers(t, early, i, k, within(-most, most))
		}
	}
	wantVariants(t,
		// To have what 3 has, it would have to prefer that.
		variant{early, all(put(own, 1, 7), put(of3, 0, 1)), false},
		variant{early, all(put(own, 1, 7), put(of3, 0, 1), func(v *api.View) { v.Edges[0].Weight = 5 }), true},
		variant{early, all(put(own, 1, 7), put(of3, 0, 1), func(v *api.View) { v.Edges[0].Weight = 6 }), false},
		variant{early, all(put(own, 1, 7), put(of3, 0, 1), func(v *api.View) { v.Edges[0].ID, v.Edges[0].Weight = 8, 6 }), true},
		variant{early, all(put(own, 1, 7), put(of3, 0, 1), put(of2, 0, 0)), true},
		variant{early, all(put(own, 0, 2), put(of2, 0, 2)), false},
		variant{early, all(put(own, 0, 0), put(of2, 0, 0)), false},
	)
}

// P14.1: a trader that is kept waiting.
func TestWaiting(t *testing.T) {
	wantNumbers(t, waiting, own, 0, within(5, 5))
	wantNumbers(t, waiting, own, 1, within(9, 9))
	wantNumbers(t, waiting, own, 2, within(0, 0))
	wantNumbers(t, waiting, of2, 0, within(4, 4))
	wantNumbers(t, waiting, of2, 1, but(20))
	wantNumbers(t, waiting, of2, 2, within(-most, most))
	wantNumbers(t, waiting, of3, 0, within(-most, 4))
	wantNumbers(t, waiting, of3, 1, within(-most, most))
	wantNumbers(t, waiting, of3, 2, within(-most, most))
	wantNumbers(t, waiting, of6, 0, within(5, 5))
	wantNumbers(t, waiting, of6, 1, but(22))
	wantNumbers(t, waiting, of6, 2, func(n int) bool { return -most <= n && n <= most })
	for k := range 3 {
		wantNumbers(t, waiting, of8, k, within(-most, most))
	}
	wantNumbers(t, waiting, of10, 0, within(1, most))
	wantNumbers(t, waiting, of10, 1, within(25, 25))
	wantNumbers(t, waiting, of10, 2, within(-most, most))
	wantNumbers(t, waiting, of11, 0, within(-most, 4))
	wantNumbers(t, waiting, of11, 1, within(-most, most))
	// The greatest round.
	for _, n := range numbers() {
		// In the first round, it has to have what it prefers to all others: 2 and 3 are no traders then.
		wantVariants(t, variant{waiting, all(put(own, 0, n), put(of6, 0, n), put(of2, 0, n-1), put(of3, 0, 0)), 1 <= n && n <= 24})
		wantVariants(t, variant{waiting, all(put(own, 0, n), put(of6, 0, n), put(of2, 0, 0), put(of3, 0, n-1)), 1 <= n && n <= 24})
	}
	wantVariants(t,
		// One who waits for what it does not prefer to its edge is not kept waiting.
		variant{waiting, all(put(of2, 0, 3), put(of8, 0, 4)), false},
		variant{waiting, all(put(of2, 0, 3), put(of8, 0, 4), func(v *api.View) { v.Edges[3].Weight = 6 }), false},
		variant{waiting, all(put(of2, 0, 3), put(of8, 0, 4), func(v *api.View) { v.Edges[3].Weight = 7 }), true},
		variant{waiting, all(put(of2, 0, 3), put(of8, 0, 4), func(v *api.View) { v.Edges[3].ID, v.Edges[3].Weight = 8, 6 }), true},
		variant{waiting, all(put(of2, 0, 3), put(of10, 0, 4)), false},
	)
}

// P14.1: a trader that leaves with others, one of which is kept waiting.
func TestFurther(t *testing.T) {
	wantNumbers(t, further, own, 0, within(5, 5))
	wantNumbers(t, further, own, 1, within(9, 9))
	wantNumbers(t, further, own, 2, within(6, 6))
	wantNumbers(t, further, of2, 0, within(-most, 3))
	wantNumbers(t, further, of2, 1, but(20))
	wantNumbers(t, further, of3, 0, within(-most, 3))
	wantNumbers(t, further, of6, 0, within(5, 5))
	wantNumbers(t, further, of6, 1, but(22))
	wantNumbers(t, further, of6, 2, within(5, 5))
	for k := range 3 {
		wantNumbers(t, further, of8, k, within(-most, most))
	}
	wantNumbers(t, further, of10, 0, within(1, most))
	wantNumbers(t, further, of10, 1, within(25, 25))
	wantNumbers(t, further, of11, 0, within(-most, 3))
	for _, n := range numbers() {
		wantVariants(t,
			variant{further, all(put(own, 2, n), put(of6, 2, n-1)), -most < n && n <= 23},
			variant{further, all(put(own, 2, n), put(of6, 2, n)), false},
			variant{further, all(put(own, 2, n), put(of6, 2, n+1)), false},
			variant{waiting, all(put(own, 2, n), put(of6, 2, n-1)), n == 0},
		)
	}
	wantVariants(t,
		variant{further, func(v *api.View) { v.Edges[3].Weight = 6 }, true},
		variant{further, func(v *api.View) { v.Edges[3].Weight = 7 }, false},
		variant{further, func(v *api.View) { v.Edges[3].ID, v.Edges[3].Weight = 8, 6 }, false},
		variant{further, all(put(of8, 0, 3), func(v *api.View) { v.Edges[3].Weight = 7 }), true},
		variant{further, all(put(of8, 0, 4), func(v *api.View) { v.Edges[3].Weight = 7 }), false},
		variant{further, func(v *api.View) { v.Edges[2].Weight = 10 }, true},
		variant{further, all(put(of2, 0, 9), func(v *api.View) { v.Edges[2].Weight = 9 }), false},
		variant{further, all(put(of2, 0, 9), func(v *api.View) { v.Edges[2].Weight = 10 }), true},
		// An edge that is no wish: undirected, turned around, a loop, or to one that is no trader.
		variant{further, func(v *api.View) { v.Edges[2].Directed = false }, false},
		variant{further, func(v *api.View) { v.Edges[2].From, v.Edges[2].To = 6, 5 }, false},
		variant{further, func(v *api.View) { v.Edges[2].To = 5 }, false},
		variant{further, put(own, 1, 38), false},
		variant{further, all(put(own, 1, 38), put(of11, 0, 5, 7, 5)), true},
		variant{further, all(put(own, 1, 31, 0), put(of11, 0, 4)), false},
	)
}

// P14.1: traders that leave alone.
func TestAlone(t *testing.T) {
	wantNumbers(t, alone, own, 0, within(5, 5))
	wantNumbers(t, alone, own, 1, within(-1, -1))
	wantNumbers(t, alone, own, 2, within(0, 0))
	wantNumbers(t, alone, of2, 0, within(-most, 4))
	wantNumbers(t, alone, of2, 1, but(20))
	wantNumbers(t, alone, of3, 0, within(4, 4))
	wantNumbers(t, alone, of6, 0, within(-most, 4))
	wantNumbers(t, alone, of6, 1, but(22))
	wantNumbers(t, alone, of8, 0, within(-most, 4))
	wantNumbers(t, alone, of10, 0, within(-most, most))
	wantNumbers(t, alone, of10, 1, but(25))
	wantNumbers(t, alone, of11, 0, within(-most, 4))
	wantNumbers(t, lonely, own, 0, within(1, 1))
	wantNumbers(t, lonely, own, 1, within(-1, -1))
	wantNumbers(t, lonely, own, 2, within(0, 0))
	for _, i := range []int{of2, of3, of6, of8, of11} {
		wantNumbers(t, lonely, i, 0, within(-most, 0))
	}
	wantNumbers(t, lonely, of2, 1, within(-most, most))
	wantNumbers(t, lonely, of10, 1, but(25))
	wantNumbers(t, lonely, of11, 1, within(-most, most))
	for _, n := range numbers() {
		wantVariants(t,
			variant{alone, all(put(own, 0, n), put(of2, 0, 0), put(of3, 0, 0), put(of6, 0, 0), put(of8, 0, n-1)), 1 <= n && n <= 24},
			variant{lonely, put(own, 0, n, -1, n), false},
			// Without a wish that led to one of the round before, nobody is left alone later, whatever its steps are.
			variant{alone, all(put(of3, 0, 3), put(own, 2, n)), false},
		)
	}
}

// P14.1: of those whose wishes lead to a trader, exactly one has it, or nobody does.
func TestTakers(t *testing.T) {
	takers := []struct{ place, edge int }{{of2, 20}, {of6, 22}, {of10, 25}}
	for set := range 8 {
		many := 0
		take := func(v *api.View) {}
		for i, x := range takers {
			edge := 37
			if set>>i&1 == 1 {
				edge = x.edge
				many++
			}
			take = all(take, put(x.place, 1, edge))
		}
		for _, from := range []func() api.View{early, waiting, further} {
			wantVariants(t, variant{from, take, many == 1})
		}
		for _, from := range others() {
			wantVariants(t, variant{from, take, true})
		}
		wantVariants(t, variant{alone, take, many == 0})
		// Those that are no traders take nothing: of 2 and 6 that is said here.
		wantVariants(t, variant{lonely, take, set < 4})
	}
	// Nobody has it by an edge of the trader itself, by one that is no wish, or by that of another one.
	for _, x := range takers {
		for id := -1; id < 40; id++ {
			if id != x.edge {
				wantVariants(t, variant{alone, put(x.place, 1, id), true})
			}
		}
	}
	for id := -1; id < 40; id++ {
		wantVariants(t, variant{alone, put(of3, 1, id), true}, variant{alone, put(of8, 1, id), true}, variant{alone, put(of11, 1, id), true}, variant{alone, put(of11, 0, 4, id), id != 39})
	}
	// Nor by an undirected edge, or several times by parallel wishes.
	wantVariants(t,
		variant{waiting, func(v *api.View) { v.Edges[6].Directed = false }, false},
		variant{waiting, func(v *api.View) { v.Edges = append(v.Edges, to(0, 10, 5, 9), to(1, 10, 5, 9)) }, true},
		variant{waiting, all(put(of10, 1, 0), func(v *api.View) { v.Edges = append(v.Edges, to(0, 10, 5, 9), to(1, 10, 5, 9)) }), true},
		variant{alone, all(put(of3, 1, 30), func(v *api.View) { v.Edges[7].From, v.Edges[7].To = 3, 5 }), true},
		variant{alone, all(put(of3, 1, 30), func(v *api.View) { v.Edges[7].From, v.Edges[7].To, v.Edges[7].Directed = 3, 5, true }), false},
	)
}

// P14.1: Count looks at the first label of the vertex, whatever else is there.
func TestCount(t *testing.T) {
	for _, c := range []struct {
		labels []api.Named
		want   int
	}{
		{nil, 0},
		{[]api.Named{{ID: 5, Label: []int{1, 0, 0}}}, 1},
		{[]api.Named{{ID: 5, Label: []int{1, -1, 0}}}, 0},
		{[]api.Named{{ID: 5, Label: []int{0, 39, 0}}}, 1},
		{[]api.Named{{ID: 5, Label: []int{-5, math.MaxInt, 99}}}, 1},
		{[]api.Named{{ID: 5, Label: []int{5, math.MinInt, 99}}}, 0},
		{[]api.Named{{ID: 5, Label: []int{1, 0}}}, 0},
		{[]api.Named{{ID: 5, Label: []int{1, 0, 0, 0}}}, 0},
		{[]api.Named{{ID: 5}}, 0},
		{[]api.Named{{ID: 4, Label: []int{1, 0, 0}}, {ID: 6, Label: []int{1, 0, 0}}}, 0},
		{[]api.Named{{ID: 6, Label: []int{1, -1, 0}}, {ID: 5, Label: []int{1, 7, 0}}, {ID: 5, Label: []int{1, -1, 0}}}, 1},
		{[]api.Named{{ID: 5, Label: []int{1, -1, 0}}, {ID: 5, Label: []int{1, 7, 0}}}, 0},
		// The first label counts here, not the first one with three numbers.
		{[]api.Named{{ID: 5, Label: []int{1, 7}}, {ID: 5, Label: []int{1, 7, 0}}}, 0},
		{[]api.Named{{ID: 5}, {ID: 5, Label: []int{1, 7, 0}}}, 0},
	} {
		for side := range 5 {
			for _, l := range [][]api.Edge{nil, {to(7, 5, 2, 1)}, {edge(7, 1, 2, 1), edge(99, 1, 2, 2)}} {
				v := api.View{Vertex: api.Vertex{ID: 5, Side: side}, Edges: l, Labels: c.labels}
				if wantView(t, v); trade.Count(v) != c.want {
					t.Error(v, c.want)
				}
			}
		}
	}
}

// P14.1: all views of the vertex 1 with edges to and from 0 and 2 and many labels, as the conditions say one by one.
func TestAllViewsOfAKind(t *testing.T) {
	var choices [][]int
	for round := range 4 {
		for _, id := range []int{-1, 3, 4, 5, 6} {
			for _, steps := range []int{-1, 0, 1, 2} {
				choices = append(choices, []int{round, id, steps})
			}
		}
	}
	for _, l := range [][]api.Edge{
		{to(3, 1, 0, 4), to(4, 1, 2, 5), to(5, 0, 1, 1)},
		{to(3, 1, 0, 5), to(4, 1, 2, 5), to(5, 0, 1, 1), to(6, 2, 1, 1)},
		{to(3, 1, 0, 5), to(4, 2, 1, 5)},
		{to(3, 1, 0, 5), to(4, 1, 0, 6), to(5, 2, 1, 1), to(6, 2, 1, 1)},
		{to(4, 0, 1, 5), edge(5, 1, 2, 7)},
	} {
		t.Run(text(len(l)), func(t *testing.T) {
			t.Parallel()
			good := 0
			for _, a := range choices {
				for _, b := range choices {
					for _, c := range choices {
						if a[2] != 0 && c[2] != 0 {
							continue
						}
						v := api.View{Vertex: api.Vertex{ID: 1, Side: 3}, Edges: l, Labels: []api.Named{{ID: 0, Label: a}, {ID: 1, Label: b}, {ID: 2, Label: c}}}
						if wantView(t, v) {
							good++
						}
					}
				}
			}
			if good < 500 {
				t.Error("good:", good)
			}
		})
	}
}

// P14.1: random views: true ones, in which some numbers are changed.
func TestChangedViews(t *testing.T) {
	r := rand.New(rand.NewSource(3))
	good, bad := 0, 0
	for _, g := range slices.Concat(samples(), small()) {
		if len(g.Vertices) == 0 {
			continue
		}
		l := modelOf(g).labels()
		for range 8 {
			v := viewOf(g, l, g.Vertices[r.Intn(len(g.Vertices))].ID)
			v.Edges, v.Labels = slices.Clone(v.Edges), slices.Clone(v.Labels)
			for range r.Intn(4) {
				change(r, &v)
			}
			if wantView(t, v) {
				good++
			} else {
				bad++
			}
		}
	}
	if good < 10000 || bad < 10000 {
		t.Error("too few of a kind:", good, bad)
	}
}

// change changes something in v.
func change(r *rand.Rand, v *api.View) {
	i := r.Intn(len(v.Labels))
	x := slices.Clone(v.Labels[i].Label)
	v.Labels[i].Label = x
	kind := r.Intn(10)
	if len(v.Edges) == 0 {
		kind %= 5
	}
	switch kind {
	case 0, 1:
		x[0] += r.Intn(5) - 2
	case 2:
		x[1] = r.Intn(41) - 1
	case 3:
		x[2] += r.Intn(3) - 1
	case 4:
		v.Vertex.Side = []int{3, 3, 3, r.Intn(4)}[r.Intn(4)]
	case 5:
		x[1] = v.Edges[r.Intn(len(v.Edges))].ID
	case 6:
		v.Edges[r.Intn(len(v.Edges))].Weight += r.Intn(7) - 3
	case 7:
		e := &v.Edges[r.Intn(len(v.Edges))]
		e.From, e.To = e.To, e.From
	case 8:
		e := &v.Edges[r.Intn(len(v.Edges))]
		e.Directed = !e.Directed
	case 9:
		v.Edges[r.Intn(len(v.Edges))].ID = r.Intn(40)
	}
}
