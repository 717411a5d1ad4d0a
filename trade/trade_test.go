package trade_test

import (
	"math"
	"math/rand"
	"slices"
	"testing"

	"clearway/api"
	"clearway/graph"
	"clearway/trade"
)

// wantRounds fails the test if the rounds of g are others.
func wantRounds(t *testing.T, g api.Graph, want ...[]int) {
	t.Helper()
	if l, e := trade.Rounds(g); e != api.OK || !slices.EqualFunc(l, want, slices.Equal) {
		t.Errorf("Rounds(%+v) = %v, %d; want %v", g, l, e, want)
	}
}

// wantLabels fails the test if the labels of g are others than those that are given for each vertex, in order.
func wantLabels(t *testing.T, g api.Graph, want ...[]int) {
	t.Helper()
	l, e := trade.Labels(g)
	if e != api.OK || len(l) != len(g.Vertices) || len(l) != len(want) {
		t.Fatalf("Labels(%+v) = %v, %d", g, l, e)
	}
	for i, x := range l {
		if x.ID != g.Vertices[i].ID || !slices.Equal(x.Label, want[i]) {
			t.Errorf("Labels(%+v) of %d = %v; want %v", g, x.ID, x.Label, want[i])
		}
	}
}

// wantPrefers fails the test if the trader v of g does not prefer a to b, or if it does, but should not.
func wantPrefers(t *testing.T, g api.Graph, v, a, b int, want bool) {
	t.Helper()
	if is, e := trade.Prefers(g, v, a, b); e != api.OK || is != want {
		t.Errorf("Prefers(%+v, %d, %d, %d) = %v, %d; want %v", g, v, a, b, is, e, want)
	}
}

// wantNoPrefers fails the test if Prefers returns something but an error.
func wantNoPrefers(t *testing.T, g api.Graph, v, a, b int) {
	t.Helper()
	if is, e := trade.Prefers(g, v, a, b); e != api.ErrTrade || is {
		t.Fatalf("Prefers(%+v, %d, %d, %d) = %v, %d", g, v, a, b, is, e)
	}
}

// wantNothing fails the test if one of the calls returns something but an error.
func wantNothing(t *testing.T, g api.Graph) {
	t.Helper()
	l, e := trade.Labels(g)
	m, f := trade.Rounds(g)
	if len(l) != 0 || len(m) != 0 || e != api.ErrTrade || f != api.ErrTrade {
		t.Fatalf("%+v: %v, %v, %d, %d", g, l, m, e, f)
	}
	for _, v := range []int{-1, 0, 1, 2, 3, 4, 24} {
		for _, id := range []int{-2, -1, 0, 1, 2, 39, 40} {
			wantNoPrefers(t, g, v, id, -1)
			wantNoPrefers(t, g, v, -1, id)
		}
	}
}

// The examples of the chapter.
func TestExamples(t *testing.T) {
	g := example()
	wantRounds(t, g, []int{0, 1, 2}, []int{3})
	wantLabels(t, g, []int{1, 0, 0}, []int{1, 2, 0}, []int{1, 3, 0}, []int{2, -1, 0})
	wantPrefers(t, g, 1, 2, 1, true)
	wantPrefers(t, g, 1, 1, -1, true)
	wantPrefers(t, g, 1, -1, 2, false)
	g.Edges = slices.Delete(g.Edges, 2, 3)
	wantRounds(t, g, []int{0, 1}, []int{2, 3})
	wantLabels(t, g, []int{1, 0, 0}, []int{1, 1, 0}, []int{2, -1, 0}, []int{2, -1, 0})
}

// P14.1: labels and rounds of all kinds of graphs, as the chapter defines them.
func TestLabelsAndRounds(t *testing.T) {
	rounds, steps, alone := map[int]int{}, map[int]int{}, 0
	for _, g := range slices.Concat(samples(), small()) {
		if !graph.Valid(g) {
			t.Fatalf("%+v is not valid", g)
		}
		m := modelOf(g)
		if l, e := trade.Rounds(g); e != api.OK || text(l) != text(m.rounds) {
			t.Fatalf("Rounds(%+v) = %v, %d; want %v", g, l, e, m.rounds)
		}
		want := m.labels()
		if l, e := trade.Labels(g); e != api.OK || text(l) != text(want) {
			t.Fatalf("Labels(%+v) = %v, %d; want %v", g, l, e, want)
		}
		rounds[len(m.rounds)]++
		for _, x := range want {
			steps[x.Label[2]]++
			if x.Label[0] > 1 && x.Label[1] == -1 {
				alone++
			}
		}
	}
	for n := range 9 {
		if rounds[n] < 8 || n < 5 && steps[n] < 20 {
			t.Error("too few of this kind:", n, rounds, steps)
		}
	}
	if alone < 1000 {
		t.Error("too few that are left alone:", alone)
	}
}

// P14.1: the greatest numbers of rounds, of traders in one, and of steps.
func TestExtremes(t *testing.T) {
	var all []int
	var one, alone, waiting [][]int
	for v := range 24 {
		all = append(all, v)
		one = append(one, []int{v})
		alone = append(alone, []int{v + 1, -1, 0})
		waiting = append(waiting, []int{1, v, 0})
	}
	wantRounds(t, ring(), all)
	wantLabels(t, ring(), waiting...)
	wantRounds(t, queue(), one...)
	wantLabels(t, queue(), alone...)
	wantRounds(t, market(24), all)
	// The trader 5 is kept waiting, and 6 is the furthest from it.
	labels := [][]int{{1, -1, 0}}
	for v := 1; v < 24; v++ {
		labels = append(labels, []int{2, v - 1, (5 - v + 23) % 23})
	}
	wantRounds(t, late(), all[:1], all[1:])
	wantLabels(t, late(), labels...)
	if labels[6][2] != 22 {
		t.Error(labels)
	}
	l, e := trade.Rounds(pairs(12))
	must(t, e)
	for k, x := range l {
		if !slices.Equal(x, []int{2 * k, 2*k + 1}) {
			t.Error(l)
		}
	}
	if len(l) != 12 {
		t.Error(l)
	}
}

// P14.1: a greater weight is preferred, and of equal ones the lesser number, whatever the weights are; the worst wish is preferred to staying alone.
func TestOrder(t *testing.T) {
	for _, c := range []struct{ a, b, want int }{{5, 4, 1}, {4, 5, 2}, {4, 4, 1}, {0, 0, 1}, {-1000, -1000, 1}, {-1000, 1000, 2}, {1000, -1000, 1}, {-1, 0, 2}, {-5, -4, 2}} {
		g := market(3, to(6, 0, 1, c.a), to(9, 0, 2, c.b), to(10, 1, 0, 0), to(11, 2, 0, -1000))
		other := 3 - c.want
		labels := [][]int{{1, []int{0, 6, 9}[c.want], 0}, {1, 10, 0}, {1, 11, 0}}
		labels[other] = []int{2, -1, 0}
		wantLabels(t, g, labels...)
		rounds := []int{0, c.want}
		wantRounds(t, g, rounds, []int{other})
		wantPrefers(t, g, 0, 6, 9, c.want == 1)
		wantPrefers(t, g, 0, 9, 6, c.want == 2)
		for _, id := range []int{6, 9} {
			wantPrefers(t, g, 0, id, -1, true)
			wantPrefers(t, g, 0, -1, id, false)
			wantPrefers(t, g, 0, id, id, false)
		}
	}
	// Of parallel wishes, the one that is preferred.
	wantLabels(t, market(2, to(0, 0, 1, 3), to(1, 0, 1, 4), to(2, 0, 1, 4), to(3, 1, 0, -4), to(4, 1, 0, -4), to(5, 1, 0, -5)), []int{1, 1, 0}, []int{1, 3, 0})
}

// P14.1: only edges from a trader to another one are wishes.
func TestWhatIsNoWish(t *testing.T) {
	for from := range 4 {
		for other := range 4 {
			g := graphOf([]int{from, other}, to(8, 0, 1, 5), to(9, 1, 0, 5))
			labels := [][]int{{0, -1, 0}, {0, -1, 0}}
			var round []int
			for id, side := range []int{from, other} {
				if side == 3 {
					round = append(round, id)
					labels[id] = []int{1, -1, 0}
				} else {
					wantNoPrefers(t, g, id, 8+id, -1)
					wantNoPrefers(t, g, id, -1, -1)
				}
			}
			switch len(round) {
			case 0:
				wantRounds(t, g)
			case 1:
				wantRounds(t, g, round)
				wantNoPrefers(t, g, round[0], 8+round[0], -1)
			case 2:
				wantRounds(t, g, round)
				labels[0][1], labels[1][1] = 8, 9
			}
			wantLabels(t, g, labels...)
		}
	}
	loops := market(2, to(0, 0, 0, 1000), to(1, 0, 1, 1), to(2, 1, 0, 1), edge(3, 1, 1, 1000), edge(4, 1, 0, 999))
	wantLabels(t, loops, []int{1, 1, 0}, []int{1, 2, 0})
	wantNoPrefers(t, loops, 0, 0, 1)
	wantNoPrefers(t, loops, 1, 3, 2)
	wantNoPrefers(t, loops, 1, 4, 2)
	wantLabels(t, market(2, edge(0, 0, 1, 5), to(1, 1, 0, 5)), []int{1, -1, 0}, []int{2, -1, 0})
	wantLabels(t, market(2, edge(0, 0, 1, 5), edge(1, 1, 0, 5)), []int{1, -1, 0}, []int{1, -1, 0})
}

// P14.1: who is kept waiting: only one whose wish led to a trader of the round before, and only by a wish that it prefers to what it gets.
func TestKeptWaiting(t *testing.T) {
	// 0 leaves first, then 1, which wishes for it; then 2 and 3, one of which wishes for 1.
	g := market(4, to(0, 1, 0, 5), to(1, 2, 3, 5), to(2, 3, 2, 5), to(3, 2, 1, 6))
	wantLabels(t, g, []int{1, -1, 0}, []int{2, -1, 0}, []int{3, 1, 0}, []int{3, 2, 1})
	g.Edges = append(g.Edges, to(4, 3, 0, 9))
	wantLabels(t, g, []int{1, -1, 0}, []int{2, -1, 0}, []int{3, 1, 0}, []int{3, 2, 1})
	g.Edges[4].To = 1
	wantLabels(t, g, []int{1, -1, 0}, []int{2, -1, 0}, []int{3, 1, 0}, []int{3, 2, 0})
	g.Edges[4].Weight = 4
	wantLabels(t, g, []int{1, -1, 0}, []int{2, -1, 0}, []int{3, 1, 0}, []int{3, 2, 1})
	// An equal weight counts by the number.
	g.Edges[4].Weight = 5
	wantLabels(t, g, []int{1, -1, 0}, []int{2, -1, 0}, []int{3, 1, 0}, []int{3, 2, 1})
	g.Edges[2].ID, g.Edges[3].ID, g.Edges[4].ID = 10, 11, 2
	g.Edges = []api.Edge{g.Edges[0], g.Edges[1], g.Edges[4], g.Edges[2], g.Edges[3]}
	wantLabels(t, g, []int{1, -1, 0}, []int{2, -1, 0}, []int{3, 1, 0}, []int{3, 10, 0})
	// With the wish for 0 alone, they leave in the second round.
	g = market(4, to(0, 1, 0, 5), to(1, 2, 3, 5), to(2, 3, 2, 5), to(3, 3, 0, 6))
	wantLabels(t, g, []int{1, -1, 0}, []int{2, -1, 0}, []int{2, 1, 1}, []int{2, 2, 0})
	// One that leaves alone has been kept waiting by the last one of those for whom it wished.
	g = market(3, to(0, 1, 0, 5), to(1, 2, 0, 9), to(2, 2, 1, 1))
	wantLabels(t, g, []int{1, -1, 0}, []int{2, -1, 0}, []int{3, -1, 0})
}

// P14.1: which wishes Prefers knows, and how it compares all of them.
func TestPrefers(t *testing.T) {
	r := rand.New(rand.NewSource(2))
	preferred, refused := 0, 0
	for _, g := range slices.Concat(samples(), samples(), samples()) {
		v := r.Intn(26) - 1
		if l := tradersOf(g); len(l) > 0 && r.Intn(8) > 0 {
			v = l[r.Intn(len(l))]
		}
		wishes, choices := map[int]api.Edge{-1: {}}, []int{-2, -1, v, r.Intn(40), 40}
		for _, e := range wishesOf(g, v) {
			wishes[e.ID] = e
			choices = append(choices, e.ID)
		}
		for _, a := range choices {
			for _, b := range choices {
				x, isA := wishes[a]
				y, isB := wishes[b]
				if sideIn(g, v) != 3 || !isA || !isB {
					wantNoPrefers(t, g, v, a, b)
					refused++
					continue
				}
				want := a != -1 && (b == -1 || likes(x, y))
				wantPrefers(t, g, v, a, b, want)
				if want && b != -1 {
					preferred++
				}
			}
		}
	}
	if preferred < 10000 || refused < 50000 {
		t.Error("too few:", preferred, refused)
	}
	for _, n := range []int{math.MinInt, math.MaxInt, 1 << 32} {
		wantNoPrefers(t, example(), n, -1, -1)
		wantNoPrefers(t, example(), 1, n, -1)
		wantNoPrefers(t, example(), 1, -1, n)
	}
	wantPrefers(t, example(), 0, -1, -1, false)
	wantPrefers(t, market(1), 0, -1, -1, false)
}

// P14.1, R2: graphs that are not valid.
func TestInvalidGraphs(t *testing.T) {
	for _, g := range broken() {
		if graph.Valid(g) {
			t.Fatalf("%+v is valid", g)
		}
		wantNothing(t, g)
	}
	wantNothing(t, api.Graph{Edges: []api.Edge{{}}})
	wantNothing(t, api.Graph{Depots: []int{0}})
}
