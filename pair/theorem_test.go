package pair_test

import (
	"math/rand"
	"slices"
	"sync"
	"testing"

	"clearway/api"
	"clearway/graph"
	"clearway/page"
	"clearway/pair"
)

// labelsOf returns the labels of g.
func labelsOf(t *testing.T, g api.Graph) []api.Named {
	t.Helper()
	l, e := pair.Labels(g)
	must(t, e)
	return l
}

// matchingOf returns the edges of the matching of g, and its weight.
func matchingOf(t *testing.T, g api.Graph) ([]int, int) {
	t.Helper()
	l, n, e := pair.Matching(g)
	must(t, e)
	return l, n
}

// idsOf returns the numbers of the edges of l, in ascending order.
func idsOf(l []bond) []int {
	var ids []int
	for _, b := range l {
		ids = append(ids, b.edge)
	}
	slices.Sort(ids)
	return ids
}

// few returns those of l that have at most so many eligible edges.
func few(l []api.Graph, most int) []api.Graph {
	return slices.DeleteFunc(slices.Clone(l), func(g api.Graph) bool { return len(bondsOf(g)) > most })
}

// P12.2: of all matchings, one by one, the matching has the greatest price, and no other one has the same; it has the greatest weight, and of those with this weight, it has the least edge in which they differ.
func TestBestOfAll(t *testing.T) {
	tried := 0
	for _, g := range few(slices.Concat(samples(), small()), 14) {
		ids, weight := matchingOf(t, g)
		prices := map[int]bool{}
		best, found := 0, false
		for _, b := range bondsOf(g) {
			if slices.Contains(ids, b.edge) {
				best += b.price
			}
		}
		for _, m := range matchings(bondsOf(g)) {
			other, sum := idsOf(m), 0
			for _, b := range m {
				sum += b.weight
			}
			price := priceSum(m)
			if prices[price] {
				t.Fatalf("%+v: two matchings have the price %d", g, price)
			}
			prices[price] = true
			tried++
			if slices.Equal(other, ids) {
				found = price == best && sum == weight
				continue
			}
			if price >= best || sum > weight || sum == weight && !firstIn(ids, other) {
				t.Fatalf("%+v: %v, %d, and %v, %d", g, ids, weight, other, sum)
			}
		}
		if !found {
			t.Fatalf("%+v: %v is no matching with the weight %d", g, ids, weight)
		}
	}
	if tried < 20000 {
		t.Error("too few matchings:", tried)
	}
}

// firstIn reports whether the least number in which a and b differ is in a.
func firstIn(a, b []int) bool {
	for id := range 40 {
		if slices.Contains(a, id) != slices.Contains(b, id) {
			return slices.Contains(a, id)
		}
	}
	return false
}

// allGood reports whether the views of all vertices of g with the labels l are good.
func allGood(t *testing.T, g api.Graph, l []api.Named) bool {
	t.Helper()
	good := true
	for _, x := range g.Vertices {
		good = wantView(t, viewOf(g, l, x.ID)) && good
	}
	return good
}

// P12.3: all views of a graph with its labels are good, as package page makes them, and the sum of Count is the weight of the matching.
func TestLabelsAreGood(t *testing.T) {
	for _, g := range slices.Concat(samples(), small()) {
		l := labelsOf(t, g)
		_, weight := matchingOf(t, g)
		sum := 0
		for _, x := range g.Vertices {
			v, e := page.View(g, l, x.ID)
			if must(t, e); !wantView(t, v) {
				t.Fatalf("%d in %+v: %v", x.ID, g, l)
			}
			sum += pair.Count(v)
		}
		if sum != weight {
			t.Fatalf("%+v: %d, not %d", g, sum, weight)
		}
	}
}

// firsts returns the first numbers of the labels l.
func firsts(l []api.Named) string {
	var ids []int
	for _, x := range l {
		ids = append(ids, x.Label[0])
	}
	return text(ids)
}

// mirrored returns g with its sides changed.
func mirrored(g api.Graph) api.Graph {
	h := api.Graph{Vertices: slices.Clone(g.Vertices), Edges: g.Edges, Depots: g.Depots}
	for i, v := range h.Vertices {
		h.Vertices[i].Side = []int{0, 2, 1, 3}[v.Side]
	}
	return h
}

// P12.3: other duals may be good everywhere, too: the least ones of the other side, and all between them; the first numbers are the same.
func TestOtherDuals(t *testing.T) {
	r := rand.New(rand.NewSource(3))
	others := 0
	for _, g := range slices.Concat(samples(), small()) {
		l, most := labelsOf(t, g), labelsOf(t, mirrored(g))
		if firsts(l) != firsts(most) {
			t.Fatalf("%+v: %v and %v", g, l, most)
		}
		for _, n := range []int{0, 1, p, r.Intn(3 * p), r.Intn(p), r.Intn(1 << r.Intn(41)), 2000 * p} {
			tried := slices.Clone(l)
			for i, x := range l {
				d, greatest := x.Label[1], most[i].Label[1]
				if x.Label[2] == 1 {
					d = min(d+n, greatest)
				} else if x.Label[0] >= 0 {
					d = priceOf(edgeOf(g, x.Label[0])) - min(mateOf(l, x).Label[1]+n, mateOf(most, x).Label[1])
				}
				tried[i].Label = []int{x.Label[0], d, x.Label[2]}
			}
			if !allGood(t, g, tried) {
				t.Fatalf("%+v: %v by %d", g, l, n)
			}
			if text(tried) != text(l) {
				others++
			}
		}
	}
	if others < 10000 {
		t.Error("too few others:", others)
	}
}

// edgeOf returns the edge of g with the number id.
func edgeOf(g api.Graph, id int) api.Edge {
	return g.Edges[slices.IndexFunc(g.Edges, func(e api.Edge) bool { return e.ID == id })]
}

// mateOf returns the other one of l that has the same first number as x.
func mateOf(l []api.Named, x api.Named) api.Named {
	return l[slices.IndexFunc(l, func(y api.Named) bool { return y.ID != x.ID && y.Label[0] == x.Label[0] })]
}

// inParallel calls f for all of l.
func inParallel(l []api.Graph, f func(g api.Graph)) {
	var wg sync.WaitGroup
	room := make(chan bool, 8)
	for _, g := range l {
		room <- true
		wg.Go(func() {
			f(g)
			<-room
		})
	}
	wg.Wait()
}

// trial tries labels of the vertices of a graph.
type trial struct {
	g      api.Graph
	views  []api.View
	want   string
	weight int
	found  int
}

// trialOf returns a trial of g.
func trialOf(g api.Graph) *trial {
	m := modelOf(g)
	r := &trial{g: g, want: firsts(m.labels()), weight: m.weight}
	for _, x := range g.Vertices {
		r.views = append(r.views, viewOf(g, m.labels(), x.ID))
	}
	return r
}

// look reports whether no view is good everywhere unless the first numbers are those of the matching, and what is counted is its weight; it counts how often these were found.
func (r *trial) look(l []api.Named) bool {
	sum := 0
	for _, v := range r.views {
		v.Labels = l
		if !pair.Good(v) {
			return true
		}
		sum += pair.Count(v)
	}
	r.found++
	return firsts(l) == r.want && sum == r.weight
}

// compact returns graphs of two to four vertices on which all labels are tried.
func compact() []api.Graph {
	two, three, four := []int{1, 2}, []int{2, 1, 2}, []int{1, 2, 1, 2}
	return []api.Graph{
		graphOf(two),
		graphOf(two, edge(3, 0, 1, 0)),
		graphOf(two, edge(3, 0, 1, -1)),
		graphOf(two, edge(3, 0, 1, 0), edge(7, 1, 0, 0)),
		graphOf(two, edge(3, 0, 1, 0), edge(7, 1, 0, 1)),
		graphOf(two, edge(3, 0, 1, 2), edge(7, 1, 0, 2), edge(39, 0, 1, 3)),
		graphOf([]int{1, 3}, edge(3, 0, 1, 5)),
		graphOf([]int{1, 1}, edge(3, 0, 1, 5)),
		graphOf([]int{0, 2}, edge(3, 0, 1, 5)),
		graphOf(three, edge(3, 0, 1, 0), edge(7, 1, 2, 0)),
		graphOf(three, edge(3, 0, 1, 0), edge(7, 1, 2, 1)),
		graphOf([]int{1, 2, 1}, edge(3, 0, 1, 1), edge(7, 1, 2, 1), edge(39, 2, 1, 1)),
		graphOf([]int{1, 2, 0}, edge(3, 0, 1, 0), edge(7, 1, 2, 1)),
		graphOf(four, edge(3, 0, 1, 0), edge(7, 1, 2, 0), edge(9, 2, 3, 0)),
		graphOf(four, edge(3, 0, 1, 0), edge(7, 1, 2, 1), edge(9, 2, 3, 0)),
		graphOf(four, edge(3, 0, 1, 1), edge(7, 1, 2, 3), edge(9, 2, 3, 1)),
		graphOf(four, edge(3, 0, 1, 0), edge(7, 2, 3, 0)),
		graphOf(four, edge(3, 0, 1, 0), edge(7, 2, 3, 0), edge(9, 0, 3, 0), edge(39, 1, 2, 0)),
	}
}

// P12.3: no other labels are good everywhere than those with the right first numbers: all first numbers and all duals that are made of prices are tried together, for all vertices of small graphs.
func TestOnlyTrueLabelsAreGood(t *testing.T) {
	inParallel(compact(), func(g api.Graph) {
		edges, duals := []int{-1}, []int{0}
		for _, e := range g.Edges {
			edges = append(edges, e.ID)
			duals = append(duals, max(priceOf(e), 0))
			if len(g.Vertices) < 4 {
				duals = append(duals, max(priceOf(e)-1, 0), priceOf(e)/2)
			}
		}
		if len(g.Edges) > 1 {
			duals = append(duals, max(priceOf(g.Edges[0])-priceOf(g.Edges[1]), priceOf(g.Edges[1])-priceOf(g.Edges[0])))
		}
		slices.Sort(duals)
		choices := labelsBetween(edges, slices.Compact(duals), []int{0})
		r := trialOf(g)
		labels := make([]api.Named, len(g.Vertices))
		var try func(i int) bool
		try = func(i int) bool {
			if i == len(g.Vertices) {
				return r.look(labels)
			}
			labels[i].ID = g.Vertices[i].ID
			for _, x := range choices {
				labels[i].Label = []int{x[0], x[1], []int{0, 1, 2, 0}[g.Vertices[i].Side]}
				if !try(i + 1) {
					return false
				}
			}
			return true
		}
		if !try(0) {
			t.Errorf("%+v: %v", g, labels)
		}
		if r.found == 0 {
			t.Errorf("%+v: none", g)
		}
	})
}

// told returns labels with the first numbers that are claimed, and the best duals for them: those on the left are raised as far as edges ask for it, and those on the right are what is left of the prices that their vertices claim; with so many rounds, if that does not end before.
func told(g api.Graph, claims map[int]int, rounds int) []api.Named {
	dual, mate := map[int]int{}, map[int]int{}
	for _, b := range bondsOf(g) {
		if claims[b.left] == b.edge && claims[b.right] == b.edge {
			mate[b.left], dual[b.right] = b.right, b.price
		}
	}
	for range rounds {
		for _, b := range bondsOf(g) {
			right, matched := mate[b.left]
			lack := min(b.price-dual[b.left]-dual[b.right], dual[right])
			if matched && lack > 0 {
				dual[b.left] += lack
				dual[right] -= lack
			}
		}
	}
	var l []api.Named
	for _, v := range g.Vertices {
		l = append(l, api.Named{ID: v.ID, Label: []int{claims[v.ID], dual[v.ID], []int{0, 1, 2, 0}[v.Side]}})
	}
	return l
}

// claimsOf returns what the vertices of g claim if m is the matching.
func claimsOf(g api.Graph, m []bond) map[int]int {
	c := map[int]int{}
	for _, v := range g.Vertices {
		c[v.ID] = -1
	}
	for _, b := range m {
		c[b.left], c[b.right] = b.edge, b.edge
	}
	return c
}

// P12.3: whatever other matching is claimed, with duals that are as good as they can be, some view is not good.
func TestOtherMatchings(t *testing.T) {
	inParallel(few(slices.Concat(samples(), small()), 12), func(g api.Graph) {
		r := trialOf(g)
		for _, m := range matchings(bondsOf(g)) {
			if !r.look(told(g, claimsOf(g, m), 20)) {
				t.Errorf("%+v: %v", g, m)
				return
			}
		}
		if r.found != 1 {
			t.Errorf("%+v: %d are good", g, r.found)
		}
	})
}

// P12.3: whatever edges all vertices of small graphs claim, agreeing or not.
func TestOtherClaims(t *testing.T) {
	inParallel(small(), func(g api.Graph) {
		r := trialOf(g)
		claims := map[int]int{}
		var try func(i int) bool
		try = func(i int) bool {
			if i == len(g.Vertices) {
				return r.look(told(g, claims, 8))
			}
			for k := -1; k < len(g.Edges); k++ {
				claims[g.Vertices[i].ID] = -1
				if k >= 0 {
					claims[g.Vertices[i].ID] = g.Edges[k].ID
				}
				if !try(i + 1) {
					return false
				}
			}
			return true
		}
		if !try(0) || r.found != 1 {
			t.Errorf("%+v: %v, %d", g, claims, r.found)
		}
	})
}

// lie returns another matching than that of the graph with the bonds l: one that is the best without one of its edges, or with one that does not belong to it, or any one.
func lie(r *rand.Rand, l, best []bond) []bond {
	kept := slices.Clone(l)
	for range 1 + r.Intn(3) {
		if len(kept) > 0 {
			x := kept[r.Intn(len(kept))]
			switch r.Intn(3) {
			case 0:
				kept = slices.DeleteFunc(kept, func(b bond) bool { return b == x })
			case 1:
				kept = append(without(without(kept, x.left), x.right), x)
			case 2:
				x = best[r.Intn(len(best))]
				kept = slices.DeleteFunc(kept, func(b bond) bool { return b == x })
			}
		}
	}
	ids, _ := edgesOf(greatest(kept))
	return slices.DeleteFunc(slices.Clone(l), func(b bond) bool { return !slices.Contains(ids, b.edge) })
}

// P12.3: lies about the matchings of greater graphs, which all vertices tell alike, or some of them.
func TestLies(t *testing.T) {
	r := rand.New(rand.NewSource(4))
	lies, found := 0, 0
	for range 1500 {
		g := crowd(r)
		if r.Intn(3) == 0 {
			g = randomGraph(r)
		}
		m := modelOf(g)
		best := slices.DeleteFunc(slices.Clone(m.bonds), func(b bond) bool { return !slices.Contains(m.edges, b.edge) })
		if len(best) == 0 {
			continue
		}
		x := trialOf(g)
		for range 6 {
			claims := claimsOf(g, lie(r, m.bonds, best))
			if r.Intn(3) == 0 {
				for _, v := range g.Vertices {
					if r.Intn(6) == 0 {
						claims[v.ID] = m.edge[v.ID]
					}
				}
			}
			l := told(g, claims, 1+r.Intn(30))
			if r.Intn(2) == 0 {
				for i := range l {
					l[i].Label[1] = []int{l[i].Label[1], m.dual[l[i].ID], priceOf(g.Edges[r.Intn(len(g.Edges))])}[r.Intn(3)]
					l[i].Label[1] = max(l[i].Label[1], 0)
				}
			}
			if firsts(l) != x.want {
				lies++
			}
			if !x.look(l) {
				t.Fatalf("%+v: %v", g, l)
			}
		}
		found += x.found
	}
	if lies < 4000 {
		t.Error("too few lies:", lies, found)
	}
}

// P12.4: the sum of all duals is the price of the matching.
func TestDuality(t *testing.T) {
	for _, g := range slices.Concat(samples(), small()) {
		ids, _ := matchingOf(t, g)
		price, sum := 0, 0
		for _, e := range g.Edges {
			if slices.Contains(ids, e.ID) {
				price += pair.Price(e)
			}
		}
		for _, x := range labelsOf(t, g) {
			sum += x.Label[1]
		}
		if sum != price {
			t.Fatalf("%+v: %d, not %d", g, sum, price)
		}
	}
}

// P12.5: the matching stays if one of its edges becomes heavier, or an eligible edge that is not in it lighter, or is removed.
func TestMatchingStays(t *testing.T) {
	r := rand.New(rand.NewSource(5))
	heavier, lighter := 0, 0
	for _, g := range slices.Concat(samples(), small()) {
		ids, weight := matchingOf(t, g)
		for _, b := range bondsOf(g) {
			n, gain := b.weight+r.Intn(1001-b.weight), 0
			if r.Intn(2) == 0 {
				n = min(b.weight+1, 1000)
			}
			c := api.Change{Kind: api.CWeight, ID: b.edge, N: n}
			if slices.Contains(ids, b.edge) {
				gain = n - b.weight
				heavier += min(gain, 1)
			} else {
				c.N = []int{b.weight - 1, -1, r.Intn(b.weight+1001) - 1000}[r.Intn(3)]
				if r.Intn(3) == 0 {
					c = api.Change{Kind: api.CDropEdge, ID: b.edge}
				}
				lighter++
			}
			h, e := graph.Apply(g, c)
			must(t, e)
			if l, now := matchingOf(t, h); !slices.Equal(l, ids) || now != weight+gain {
				t.Fatalf("%+v, %+v: %v, %d, not %v, %d", g, c, l, now, ids, weight+gain)
			}
		}
	}
	if heavier < 4000 || lighter < 4000 {
		t.Error("too few:", heavier, lighter)
	}
}

// endsOf returns the ends of the edges of g with the numbers l, and how often each of them is one.
func endsOf(g api.Graph, l []int) map[int]int {
	m := map[int]int{}
	for _, e := range g.Edges {
		if slices.Contains(l, e.ID) {
			m[e.From]++
			m[e.To]++
		}
	}
	return m
}

// connected reports whether the edges of g with the numbers l hang together.
func connected(g api.Graph, l []int) bool {
	been := map[int]bool{}
	var visit func(id int)
	visit = func(id int) {
		for _, k := range l {
			if e, f := edgeOf(g, id), edgeOf(g, k); !been[k] && (e.From == f.From || e.From == f.To || e.To == f.From || e.To == f.To) {
				been[k] = true
				visit(k)
			}
		}
	}
	visit(l[0])
	return len(been) == len(l)
}

// P12.6: one further eligible edge changes the matching by a path or a cycle through it, whose edges belong by turns to the matchings before and after; no vertex that was matched becomes free but an end of the path, and there is at most one edge more.
func TestFurtherEdge(t *testing.T) {
	r := rand.New(rand.NewSource(6))
	same, paths, cycles, lengths := 0, 0, 0, map[int]int{}
	for _, g := range slices.Concat(samples(), samples(), samples(), samples(), small()) {
		a, b := r.Intn(24), r.Intn(24)
		e := api.Edge{ID: r.Intn(40), From: a, To: b, Directed: r.Intn(2) == 0, Weight: r.Intn([]int{3, 10, 1001}[r.Intn(3)])}
		if n := len(g.Vertices); n > 0 && r.Intn(4) > 0 {
			e.From, e.To = g.Vertices[r.Intn(n)].ID, g.Vertices[r.Intn(n)].ID
		}
		if len(g.Edges) == 40 {
			g.Edges = slices.Delete(slices.Clone(g.Edges), e.ID, e.ID+1)
		}
		h, err := graph.Apply(g, api.Change{Kind: api.CAddEdge, Edge: e})
		if err != api.OK || len(bondsOf(h)) == len(bondsOf(g)) {
			continue
		}
		before, _ := matchingOf(t, g)
		after, _ := matchingOf(t, h)
		var differ []int
		for id := range 40 {
			if slices.Contains(before, id) != slices.Contains(after, id) {
				differ = append(differ, id)
			}
		}
		if len(differ) == 0 {
			same++
			continue
		}
		// Edges of a matching have no ends in common, so where two meet, they belong to both by turns; all have to hang together.
		ends, was, is := endsOf(h, differ), endsOf(h, before), endsOf(h, after)
		tips := 0
		for id, n := range ends {
			if n == 1 {
				tips++
			}
			if n > 2 || was[id] > 0 && is[id] == 0 && n != 1 {
				t.Fatalf("%+v and %+v: %v, %v: %d", g, e, before, after, id)
			}
		}
		for id := range was {
			if is[id] == 0 && ends[id] != 1 {
				t.Fatalf("%+v and %+v: %v, %v: %d", g, e, before, after, id)
			}
		}
		if !slices.Contains(after, e.ID) || !connected(h, differ) || tips != 0 && tips != 2 || len(after) > len(before)+1 || len(after) < len(before)-1 {
			t.Fatalf("%+v and %+v: %v, %v", g, e, before, after)
		}
		lengths[len(differ)]++
		if tips == 0 {
			cycles++
		} else {
			paths++
		}
	}
	if same < 300 || paths < 1000 || cycles < 20 || lengths[3] < 100 || lengths[5] < 20 || lengths[7] < 10 {
		t.Error("too few of some kind:", same, paths, cycles, lengths)
	}
}

// P12.6: a longest path, and a longest cycle: one further edge changes all of the matching.
func TestFurtherEdgeAtTheEnd(t *testing.T) {
	g := chain(5)
	first := g.Edges[0]
	g.Edges = g.Edges[1:]
	ids, _ := matchingOf(t, g)
	g.Edges = append([]api.Edge{first}, g.Edges...)
	now, _ := matchingOf(t, g)
	if !slices.Equal(ids, []int{1, 3, 5, 7, 9, 11, 13, 15, 17, 19, 21}) || !slices.Equal(now, []int{0, 2, 4, 6, 8, 10, 12, 14, 16, 18, 20, 22}) {
		t.Error(ids, now)
	}
	g = chain(5)
	g.Edges[0].Weight = 3
	before, _ := matchingOf(t, g)
	g.Edges = append(g.Edges, edge(23, 23, 0, 4))
	after, _ := matchingOf(t, g)
	if !slices.Equal(before, []int{0, 2, 4, 6, 8, 10, 12, 14, 16, 18, 20, 22}) || !slices.Equal(after, []int{1, 3, 5, 7, 9, 11, 13, 15, 17, 19, 21, 23}) {
		t.Error(before, after)
	}
}

// P12.1: directions, capacities and depots play no part, nor do edges that are not eligible.
func TestNoPart(t *testing.T) {
	r := rand.New(rand.NewSource(7))
	for _, g := range samples() {
		h := api.Graph{Vertices: slices.Clone(g.Vertices)}
		eligible := idsOf(bondsOf(g))
		for _, e := range g.Edges {
			e.Cap, e.Directed = r.Intn(1001), r.Intn(2) == 0
			if r.Intn(2) == 0 {
				e.From, e.To = e.To, e.From
			}
			if slices.Contains(eligible, e.ID) || r.Intn(2) == 0 {
				h.Edges = append(h.Edges, e)
			}
		}
		for i, v := range h.Vertices {
			if v.Side%3 == 0 {
				h.Vertices[i].Side = 3 * r.Intn(2)
			}
		}
		before := labelsOf(t, g)
		if now := labelsOf(t, h); text(now) != text(before) || !allGood(t, h, before) {
			t.Fatalf("%+v and %+v: %v, not %v", g, h, now, before)
		}
		ids, n := matchingOf(t, g)
		if l, m := matchingOf(t, h); !slices.Equal(l, ids) || n != m {
			t.Fatalf("%+v and %+v: %v, %d, not %v, %d", g, h, l, m, ids, n)
		}
	}
}
