package trade_test

import (
	"math/rand"
	"slices"
	"sync"
	"testing"

	"clearway/api"
	"clearway/graph"
	"clearway/page"
	"clearway/trade"
)

// labelsOf returns the labels of g.
func labelsOf(t *testing.T, g api.Graph) []api.Named {
	t.Helper()
	l, e := trade.Labels(g)
	must(t, e)
	return l
}

// roundsOf returns the rounds of g.
func roundsOf(t *testing.T, g api.Graph) [][]int {
	t.Helper()
	l, e := trade.Rounds(g)
	must(t, e)
	return l
}

// prefers returns whether the trader v of g prefers a to b.
func prefers(t *testing.T, g api.Graph, v, a, b int) bool {
	t.Helper()
	is, e := trade.Prefers(g, v, a, b)
	must(t, e)
	return is
}

// edgesOf returns the edge of each trader of g, as its label says.
func edgesOf(t *testing.T, g api.Graph) map[int]int {
	t.Helper()
	m := map[int]int{}
	for _, x := range labelsOf(t, g) {
		if sideIn(g, x.ID) == 3 {
			m[x.ID] = x.Label[1]
		}
	}
	return m
}

// edgeOf returns the edge of g with the number id.
func edgeOf(g api.Graph, id int) api.Edge {
	return g.Edges[slices.IndexFunc(g.Edges, func(e api.Edge) bool { return e.ID == id })]
}

// P14.2: edges lead from traders to other ones, which leave with edges, too, in the same round, and none is led to by two; every trader leaves in exactly one round.
func TestCycles(t *testing.T) {
	trades, stay := 0, 0
	for _, g := range slices.Concat(samples(), small()) {
		edges, rounds := edgesOf(t, g), roundsOf(t, g)
		led := map[int]bool{}
		for v, id := range edges {
			if id == -1 {
				stay++
				continue
			}
			trades++
			e := edgeOf(g, id)
			if next, is := edges[e.To]; !e.Directed || e.From != v || e.To == v || !is || next == -1 || led[e.To] {
				t.Fatalf("%+v: %d of %d: %v", g, id, v, edges)
			}
			led[e.To] = true
		}
		var all []int
		for _, l := range rounds {
			if len(l) == 0 || !slices.IsSorted(l) {
				t.Fatalf("%+v: %v", g, rounds)
			}
			all = append(all, l...)
		}
		slices.Sort(all)
		if !slices.Equal(all, tradersOf(g)) {
			t.Fatalf("%+v: %v", g, rounds)
		}
		for _, x := range labelsOf(t, g) {
			if x.Label[0] > 0 && !slices.Contains(rounds[x.Label[0]-1], x.ID) || x.Label[0] == 0 && sideIn(g, x.ID) == 3 {
				t.Fatalf("%+v: %v and %v", g, x, rounds)
			}
		}
	}
	if trades < 10000 || stay < 10000 {
		t.Error("too few of a kind:", trades, stay)
	}
}

// P14.3: all views of a graph with its labels are good, as package page makes them, and Count tells who trades.
func TestLabelsAreGood(t *testing.T) {
	for _, g := range slices.Concat(samples(), small()) {
		l := labelsOf(t, g)
		sum, many := 0, 0
		for i, x := range g.Vertices {
			v, e := page.View(g, l, x.ID)
			if must(t, e); !wantView(t, v) {
				t.Fatalf("%d in %+v: %v", x.ID, g, l)
			}
			sum += trade.Count(v)
			if l[i].Label[1] != -1 {
				many++
			}
		}
		if sum != many {
			t.Fatalf("%+v: %d, not %d", g, sum, many)
		}
	}
}

// inParallel calls f for all of l.
func inParallel(l []api.Graph, f func(g api.Graph)) {
	var wg sync.WaitGroup
	room := make(chan bool, 8)
	for _, g := range l {
		room <- true
		wg.Go(func() {
			f(g)
			<-room
		})
	}
	wg.Wait()
}

// trial tries labels of the vertices of a graph.
type trial struct {
	g     api.Graph
	m     model
	views []api.View
	want  string
	found int
}

// trialOf returns a trial of g.
func trialOf(g api.Graph) *trial {
	r := &trial{g: g, m: modelOf(g)}
	r.want = text(r.m.labels())
	for _, x := range g.Vertices {
		r.views = append(r.views, viewOf(g, nil, x.ID))
	}
	return r
}

// look reports whether some view is not good with the labels l, unless these are the true ones; it counts how often these were found.
func (r *trial) look(l []api.Named) bool {
	for _, v := range r.views {
		v.Labels = l
		if !trade.Good(v) {
			return true
		}
	}
	r.found++
	return text(l) == r.want
}

// P14.3: of all labels of two traders, whose numbers are possible and not far from those that labels have, only the true ones are good everywhere.
func TestAllLabelsOfTwo(t *testing.T) {
	var list []api.Graph
	for _, l := range [][]api.Edge{
		nil, {to(1, 0, 1, 5)}, {to(1, 0, 1, 5), to(2, 0, 1, 6)}, {to(1, 0, 1, 5), to(2, 1, 0, 5)}, {to(0, 0, 1, 5), to(1, 0, 1, 5), to(2, 1, 0, 5)}, {to(0, 1, 0, 5), to(1, 0, 1, 5), to(2, 1, 0, 6), to(3, 0, 1, 6)},
		{edge(0, 0, 1, 5), to(1, 0, 1, 4)}, {edge(0, 0, 1, 5), to(1, 0, 0, 4), to(2, 1, 1, 4), to(3, 1, 0, 4)},
	} {
		list = append(list, market(2, l...), graphOf([]int{3, 1}, l...), graphOf([]int{0, 3}, l...), graphOf([]int{1, 2}, l...))
	}
	var choices [][]int
	for _, round := range []int{-1, 0, 1, 2, 3, 24, 25} {
		for _, id := range []int{-2, -1, 0, 1, 2, 3} {
			for _, steps := range []int{-1, 0, 1, 2, 23, 24} {
				choices = append(choices, []int{round, id, steps})
			}
		}
	}
	inParallel(list, func(g api.Graph) {
		r := trialOf(g)
		for _, a := range choices {
			for _, b := range choices {
				if l := []api.Named{{ID: 0, Label: a}, {ID: 1, Label: b}}; !r.look(l) {
					t.Errorf("%+v: %v", g, l)
				}
			}
		}
		if r.found != 1 {
			t.Errorf("%+v: %d are good", g, r.found)
		}
	})
}

// tryAll calls try with all ways to label the vertices of g, where each has these choices, until it returns false.
func tryAll(g api.Graph, choices func(v api.Vertex) [][]int, try func(l []api.Named) bool) bool {
	l := make([]api.Named, len(g.Vertices))
	var from func(i int) bool
	from = func(i int) bool {
		if i == len(l) {
			return try(l)
		}
		l[i].ID = g.Vertices[i].ID
		for _, x := range choices(g.Vertices[i]) {
			l[i].Label = x
			if !from(i + 1) {
				return false
			}
		}
		return true
	}
	return from(0)
}

// claims returns all labels for v with a round up to the given one, each edge that leaves it or none, and fewer steps than the given number.
func claims(g api.Graph, v api.Vertex, rounds, steps int) [][]int {
	if v.Side != 3 {
		return [][]int{{0, -1, 0}}
	}
	ids := []int{-1}
	for _, e := range g.Edges {
		if e.From == v.ID {
			ids = append(ids, e.ID)
		}
	}
	var l [][]int
	for round := 1; round <= rounds; round++ {
		for _, id := range ids {
			for k := range steps {
				l = append(l, []int{round, id, k})
			}
		}
	}
	return l
}

// P14.3: of all labels of three traders with up to four rounds and up to two steps, only the true ones are good everywhere.
func TestAllLabelsOfThree(t *testing.T) {
	var list []api.Graph
	for i, g := range small() {
		if i%61 == 0 {
			list = append(list, g)
		}
	}
	inParallel(list, func(g api.Graph) {
		r := trialOf(g)
		if !tryAll(g, func(v api.Vertex) [][]int { return claims(g, v, 4, 3) }, r.look) || r.found != 1 {
			t.Errorf("%+v: %d", g, r.found)
		}
	})
}

// due returns labels with these rounds and edges (of traders), and the steps that each trader would be due, if those of the others are right: as good as they can be. On a cycle where nobody waits, they begin with the trader from.
func due(g api.Graph, round, edge map[int]int, from int) []api.Named {
	claimed := model{g: g, round: round, edge: edge}
	var l []api.Named
	for _, v := range g.Vertices {
		if v.Side != 3 {
			l = append(l, api.Named{ID: v.ID, Label: []int{0, -1, 0}})
			continue
		}
		steps := 0
		for at := v.ID; steps < 24 && round[at] > 1 && edge[at] != -1 && at != from && !claimed.waits(at); steps++ {
			at = edgeOf(g, edge[at]).To
		}
		l = append(l, api.Named{ID: v.ID, Label: []int{round[v.ID], edge[v.ID], steps}})
	}
	return l
}

// P14.3: whatever rounds and edges all traders of small graphs claim, agreeing or not, with the steps that follow.
func TestOtherClaims(t *testing.T) {
	var list []api.Graph
	for i, g := range small() {
		if i%4 == 0 {
			list = append(list, g)
		}
	}
	r := rand.New(rand.NewSource(4))
	for len(list) < 3200 {
		// Four traders with six wishes.
		g := market(4)
		for id := range 6 {
			a := r.Intn(4)
			g.Edges = append(g.Edges, to(id, a, (a+1+r.Intn(3))%4, r.Intn(3)))
		}
		list = append(list, g)
	}
	inParallel(list, func(g api.Graph) {
		r := trialOf(g)
		round, edge := map[int]int{}, map[int]int{}
		choices := func(v api.Vertex) [][]int { return claims(g, v, len(g.Vertices), 1) }
		ok := tryAll(g, choices, func(l []api.Named) bool {
			for _, x := range l {
				round[x.ID], edge[x.ID] = x.Label[0], x.Label[1]
			}
			return r.look(due(g, round, edge, -1))
		})
		if !ok || r.found != 1 {
			t.Errorf("%+v: %v, %v, %d", g, round, edge, r.found)
		}
	})
}

// lie returns rounds and edges that could be those of g, but mostly are not: those of a graph with other wishes; those of rounds in which only one cycle leaves; or those where some leave later.
func lie(r *rand.Rand, g api.Graph, m model) (map[int]int, map[int]int) {
	h := api.Graph{Vertices: g.Vertices, Edges: slices.Clone(g.Edges)}
	switch r.Intn(5) {
	case 0: // without some wishes
		h.Edges = slices.DeleteFunc(h.Edges, func(e api.Edge) bool { return r.Intn(8) == 0 })
	case 1: // with other preferences
		for range 1 + r.Intn(3) {
			h.Edges[r.Intn(len(h.Edges))].Weight = r.Intn(50) - 10
		}
	case 2: // with what edges beside wishes would be
		for i := range h.Edges {
			h.Edges[i].Directed = true
		}
	}
	n := modelOf(h)
	round, edge := n.round, n.edge
	switch r.Intn(4) {
	case 0: // one cycle after the other
		round = map[int]int{}
		for _, l := range n.rounds {
			for _, v := range l {
				next := len(distinct(round)) + 1
				for at := v; round[at] == 0; at = n.to[at] {
					round[at] = next
				}
			}
		}
	case 1: // some cycles one round later or sooner
		for _, v := range tradersOf(g) {
			if r.Intn(6) > 0 {
				continue
			}
			k := round[v] + r.Intn(3) - 1
			for at := v; round[at] != k; at = n.to[at] {
				round[at] = k
			}
		}
	case 2: // all from one round on later or sooner
		if from, d := 1+r.Intn(len(n.rounds)+1), 2*r.Intn(2)-1; len(n.rounds) > 0 {
			for v, k := range round {
				if k >= from {
					round[v] = max(k+d, 1)
				}
			}
		}
	}
	return round, edge
}

// distinct returns the different values of m.
func distinct(m map[int]int) map[int]bool {
	l := map[int]bool{}
	for _, n := range m {
		l[n] = true
	}
	return l
}

// P14.3: lies about greater graphs, which all vertices tell alike, or some of them.
func TestLies(t *testing.T) {
	r := rand.New(rand.NewSource(5))
	lies, truths, nearly := 0, 0, 0
	for range 6000 {
		g := crowd(r)
		if r.Intn(3) == 0 {
			g = randomGraph(r)
		}
		if len(g.Edges) == 0 || len(tradersOf(g)) == 0 {
			continue
		}
		x := trialOf(g)
		for range 5 {
			round, edge := lie(r, g, x.m)
			if r.Intn(3) == 0 {
				for _, v := range tradersOf(g) {
					if r.Intn(4) == 0 {
						round[v], edge[v] = x.m.round[v], x.m.edge[v]
					}
				}
			}
			l := due(g, round, edge, r.Intn(25)-1)
			if text(l) == x.want {
				truths++
			} else {
				lies++
			}
			bad := 0
			for _, v := range g.Vertices {
				if !wantView(t, viewOf(g, l, v.ID)) {
					bad++
				}
			}
			if bad == 1 {
				nearly++
			}
			if !x.look(l) || text(l) == x.want && x.found == 0 {
				t.Fatalf("%+v: %v", g, l)
			}
		}
	}
	if lies < 10000 || truths < 100 || nearly < 1000 {
		t.Error("too few of a kind:", lies, truths, nearly)
	}
}

// P14.3: a single number of true labels is changed: then some view is not good.
func TestOneNumberChanged(t *testing.T) {
	r := rand.New(rand.NewSource(6))
	for _, g := range samples() {
		if len(g.Vertices) == 0 {
			continue
		}
		x := trialOf(g)
		l := x.m.labels()
		for range 20 {
			i, k := r.Intn(len(l)), r.Intn(3)
			was := l[i].Label[k]
			l[i].Label[k] = []int{was + 1, was - 1, r.Intn(41) - 1}[r.Intn(3)]
			if l[i].Label[k] != was && (!x.look(l) || x.found > 0) {
				t.Fatalf("%+v: %v", g, l)
			}
			l[i].Label[k] = was
		}
		if !x.look(l) || x.found != 1 {
			t.Fatalf("%+v: %v", g, l)
		}
	}
}

// options returns what the trader v of g could leave with: -1 for staying alone, and its wishes.
func options(g api.Graph, v int) []int {
	l := []int{-1}
	for _, e := range wishesOf(g, v) {
		l = append(l, e.ID)
	}
	return l
}

// swaps calls f with all ways in which the traders of a set of g could leave: each alone, or with a wish to another one of the set, so that no two lead to the same one (which is itself for one that stays alone); it returns how many there are.
func swaps(g api.Graph, set []int, f func(edge map[int]int)) int {
	edge, led, many := map[int]int{}, map[int]bool{}, 0
	var from func(i int)
	from = func(i int) {
		if i == len(set) {
			many++
			f(edge)
			return
		}
		for _, id := range options(g, set[i]) {
			to := set[i]
			if id != -1 {
				to = edgeOf(g, id).To
			}
			if slices.Contains(set, to) && !led[to] {
				edge[set[i]], led[to] = id, true
				from(i + 1)
				led[to] = false
			}
		}
	}
	from(0)
	return many
}

// subsets calls f with all sets of l but the empty one.
func subsets(l []int, f func(set []int)) {
	for bits := 1; bits < 1<<len(l); bits++ {
		var set []int
		for i, v := range l {
			if bits>>i&1 == 1 {
				set = append(set, v)
			}
		}
		f(set)
	}
}

// P14.4: no set of traders can trade among themselves so that one has more than by the labels, and none less.
func TestCore(t *testing.T) {
	r := rand.New(rand.NewSource(7))
	sets, better := 0, 0
	var list []api.Graph
	for i, g := range small() {
		if i%9 == 0 {
			list = append(list, g)
		}
	}
	for range 300 {
		g := market(3 + r.Intn(4))
		n := len(g.Vertices)
		for id := range 4 + r.Intn(2*n) {
			a := r.Intn(n)
			g.Edges = append(g.Edges, to(id, a, (a+1+r.Intn(n-1))%n, r.Intn(4)-1))
		}
		list = append(list, g)
	}
	for _, g := range list {
		has := edgesOf(t, g)
		subsets(tradersOf(g), func(set []int) {
			sets += swaps(g, set, func(edge map[int]int) {
				more, less := 0, 0
				for _, v := range set {
					switch {
					case edge[v] == has[v]:
					case prefers(t, g, v, edge[v], has[v]):
						more++
					case prefers(t, g, v, has[v], edge[v]):
						less++
					default:
						t.Fatalf("%+v: %d has neither more nor less by %d", g, v, edge[v])
					}
				}
				if more > 0 && less == 0 {
					t.Fatalf("%+v: %v by %v, not %v", g, set, edge, has)
				}
				if more > 0 {
					better++
				}
			})
		})
	}
	if sets < 10000 || better < 1000 {
		t.Error("too few:", sets, better)
	}
}

// P14.4: the same for greater graphs: a set that could do better has a cycle of wishes to which nobody on it would prefer what it has, and at least one that is preferred. So no walk of such wishes leads back to where one begins that is preferred.
func TestCoreOfGreaterGraphs(t *testing.T) {
	tried := 0
	for _, g := range samples() {
		has := edgesOf(t, g)
		next := map[int][]int{}
		for _, v := range tradersOf(g) {
			for _, e := range wishesOf(g, v) {
				if e.ID == has[v] || prefers(t, g, v, e.ID, has[v]) {
					next[v] = append(next[v], e.To)
				}
			}
		}
		for _, v := range tradersOf(g) {
			for _, e := range wishesOf(g, v) {
				if !prefers(t, g, v, e.ID, has[v]) {
					continue
				}
				tried++
				been := []int{e.To}
				for i := 0; i < len(been); i++ {
					for _, u := range next[been[i]] {
						if !slices.Contains(been, u) {
							been = append(been, u)
						}
					}
				}
				if slices.Contains(been, v) {
					t.Fatalf("%+v: %d by %d, not %d", g, v, e.ID, has[v])
				}
			}
		}
	}
	if tried < 5000 {
		t.Error("too few wishes:", tried)
	}
}

// orders calls f with all orders of the numbers from 0 to n - 1.
func orders(n int, f func(l []int)) {
	var from func(l []int)
	from = func(l []int) {
		if len(l) == n {
			f(l)
		}
		for i := range n {
			if !slices.Contains(l, i) {
				from(append(slices.Clone(l), i))
			}
		}
	}
	from(nil)
}

// P14.5: whatever weights a trader gives to its own wishes, it does not get one that it prefers to what it has: all orders of a few wishes, and random weights of many.
func TestNoLieHelps(t *testing.T) {
	r := rand.New(rand.NewSource(8))
	same, worse := 0, 0
	for i, g := range slices.Concat(samples(), samples(), small()) {
		l := tradersOf(g)
		if len(l) == 0 || i%2 == 0 {
			continue
		}
		v := l[r.Intn(len(l))]
		wishes, has := wishesOf(g, v), edgesOf(t, g)[v]
		try := func(weights []int) {
			h := api.Graph{Vertices: g.Vertices, Edges: slices.Clone(g.Edges)}
			for k, e := range wishes {
				c := api.Change{Kind: api.CWeight, ID: e.ID, N: weights[k]}
				changed, err := graph.Apply(h, c)
				must(t, err)
				h = changed
			}
			gets := edgesOf(t, h)[v]
			if prefers(t, g, v, gets, has) {
				t.Fatalf("%+v: %d gets %d instead of %d by %v", g, v, gets, has, weights)
			}
			if gets == has {
				same++
			} else {
				worse++
			}
		}
		if n := len(wishes); n < 5 {
			orders(n, try)
		} else {
			for range 20 {
				var weights []int
				for range n {
					weights = append(weights, r.Intn(n)-r.Intn(3))
				}
				try(weights)
			}
		}
	}
	if same < 10000 || worse < 2000 {
		t.Error("too few of a kind:", same, worse)
	}
}

// P14.6: weights of edges that are no wishes, sides other than STrader, capacities and depots play no part, nor do those edges themselves.
func TestNoPart(t *testing.T) {
	r := rand.New(rand.NewSource(9))
	changed := 0
	for _, g := range samples() {
		h := api.Graph{Vertices: slices.Clone(g.Vertices)}
		for i, v := range h.Vertices {
			if v.Side != 3 {
				h.Vertices[i].Side = r.Intn(3)
			}
			if len(h.Depots) < 3 && r.Intn(5) == 0 {
				h.Depots = append(h.Depots, v.ID)
			}
		}
		for _, e := range g.Edges {
			e.Cap = r.Intn(1001)
			if !slices.ContainsFunc(wishesOf(g, e.From), func(f api.Edge) bool { return f.ID == e.ID }) {
				e.Weight = r.Intn(2001) - 1000
				changed++
				if r.Intn(3) == 0 {
					continue
				}
			}
			h.Edges = append(h.Edges, e)
		}
		before := labelsOf(t, g)
		if now := labelsOf(t, h); text(now) != text(before) || text(roundsOf(t, h)) != text(roundsOf(t, g)) {
			t.Fatalf("%+v and %+v: %v, not %v", g, h, now, before)
		}
		for _, v := range h.Vertices {
			if !wantView(t, viewOf(h, before, v.ID)) {
				t.Fatalf("%+v and %+v: %v", g, h, before)
			}
		}
	}
	if changed < 3000 {
		t.Error("too few:", changed)
	}
}

// P14.6: if a wish is removed that its trader does not prefer to its edge, and that is not its edge, nothing changes.
func TestWishRemoved(t *testing.T) {
	removed, others := 0, 0
	for i, g := range slices.Concat(samples(), small()) {
		if i%3 > 0 {
			continue
		}
		has, before := edgesOf(t, g), text(labelsOf(t, g))
		for v, id := range has {
			for _, e := range wishesOf(g, v) {
				h, err := graph.Apply(g, api.Change{Kind: api.CDropEdge, ID: e.ID})
				must(t, err)
				now := labelsOf(t, h)
				if e.ID == id || prefers(t, g, v, e.ID, id) {
					if text(now) != before {
						others++
					}
					continue
				}
				removed++
				if text(edgesOf(t, h)) != text(has) || text(now) != before {
					t.Fatalf("%+v without %d: %v, not %v", g, e.ID, now, before)
				}
			}
		}
	}
	if removed < 3000 || others < 3000 {
		t.Error("too few of a kind:", removed, others)
	}
}
