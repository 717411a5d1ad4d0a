package blossom_test

import (
	"math/rand"
	"slices"
	"sync/atomic"
	"testing"

	"clearway/api"
	"clearway/blossom"
	"clearway/graph"
	"clearway/page"
)

// labelsOf returns the labels of g.
func labelsOf(t *testing.T, g api.Graph) []api.Named {
	t.Helper()
	l, e := blossom.Labels(g)
	must(t, e)
	return l
}

// matchingOf returns the edges of the best matching of g.
func matchingOf(t *testing.T, g api.Graph) []int {
	t.Helper()
	l, e := blossom.Matching(g)
	must(t, e)
	return l
}

// dualsOf returns the dual solution of g.
func dualsOf(t *testing.T, g api.Graph) api.Dual {
	t.Helper()
	d, e := blossom.Duals(g)
	must(t, e)
	return d
}

// idsOf returns the numbers of the edges of l, in ascending order.
func idsOf(l []bond) []int {
	var ids []int
	for _, b := range l {
		ids = append(ids, b.edge)
	}
	slices.Sort(ids)
	return ids
}

// chosen returns the bonds of l with the numbers ids.
func chosen(l []bond, ids []int) []bond {
	return slices.DeleteFunc(slices.Clone(l), func(b bond) bool { return !slices.Contains(ids, b.edge) })
}

// few returns those of l that have at most so many usable edges.
func few(l []model, most int) []model {
	return slices.DeleteFunc(slices.Clone(l), func(m model) bool { return len(m.bonds) > most })
}

// P13.2: of all matchings, one by one, the best one has the greatest value, and no other one has the same; so none has a greater sum of weights, and none with this sum has the least edge in which they differ.
func TestBestOfAll(t *testing.T) {
	tried := 0
	for _, m := range few(slices.Concat(samples(), small()), 14) {
		ids := matchingOf(t, m.g)
		best := valueOf(chosen(m.bonds, ids))
		values, found := map[int]bool{}, false
		for _, l := range matchings(m.bonds) {
			other, value, weight := idsOf(l), valueOf(l), 0
			for _, b := range l {
				weight += b.weight
			}
			if values[value] {
				t.Fatalf("%+v: two matchings have the value %d", m.g, value)
			}
			values[value] = true
			tried++
			if slices.Equal(other, ids) {
				found = true
			} else if value >= best || weight > m.weight || weight == m.weight && !firstIn(ids, other) {
				t.Fatalf("%+v: %v, and %v with the value %d", m.g, ids, other, value)
			}
		}
		if !found {
			t.Fatalf("%+v: %v is no matching", m.g, ids)
		}
	}
	if tried < 20000 {
		t.Error("too few matchings:", tried)
	}
}

// firstIn reports whether the least number in which a and b differ is in a.
func firstIn(a, b []int) bool {
	for id := range 40 {
		if slices.Contains(a, id) != slices.Contains(b, id) {
			return slices.Contains(a, id)
		}
	}
	return false
}

// P13.2: in greater graphs, the matchings without one of the edges, and those with another edge, have lesser values.
func TestBestOfMany(t *testing.T) {
	l := samples()
	var some []model
	for i := len(l) - 1; i >= 0; i -= 9 {
		some = append(some, l[i])
	}
	inParallel(some, func(_ int, m model) {
		ids, e := blossom.Matching(m.g)
		best := valueOf(chosen(m.bonds, ids))
		if e != api.OK || best != m.value {
			t.Errorf("%+v: %v, %d", m.g, ids, best)
		}
		for _, b := range m.bonds {
			other := bestOf(slices.DeleteFunc(slices.Clone(m.bonds), func(x bond) bool { return x == b })).value
			if !slices.Contains(ids, b.edge) {
				other = bestOf(without(without(m.bonds, b.a), b.b)).value + b.price
			}
			if other >= best {
				t.Errorf("%+v: %v: %d", m.g, b, other)
			}
		}
	})
}

// allGood reports whether the views of all vertices of g with the labels l are good.
func allGood(t *testing.T, g api.Graph, l []api.Named) bool {
	t.Helper()
	good := true
	for _, x := range g.Vertices {
		good = wantView(t, viewOf(g, l, x.ID)) && good
	}
	return good
}

// P13.3, P13.4: all views of a graph with its labels are good, as package page makes them, and the sum of Count is the weight of the best matching.
func TestLabelsAreGood(t *testing.T) {
	for _, m := range slices.Concat(samples(), small()) {
		l := labelsOf(t, m.g)
		sum := 0
		for _, x := range m.g.Vertices {
			v, e := page.View(m.g, l, x.ID)
			if must(t, e); !wantView(t, v) {
				t.Fatalf("%d in %+v: %v", x.ID, m.g, l)
			}
			sum += blossom.Count(v)
		}
		if sum != m.weight {
			t.Fatalf("%+v: %d, not %d", m.g, sum, m.weight)
		}
	}
}

// firsts returns the first numbers of the labels l.
func firsts(l []api.Named) string {
	var ids []int
	for _, x := range l {
		ids = append(ids, x.Label[0])
	}
	return text(ids)
}

// trial tries labels of the vertices of a graph.
type trial struct {
	g      api.Graph
	views  []api.View
	want   string
	weight int
	found  int
}

// trialOf returns a trial of the graph of m.
func trialOf(m model) *trial {
	r := &trial{g: m.g, want: firsts(m.labels()), weight: m.weight}
	for _, x := range m.g.Vertices {
		r.views = append(r.views, viewOf(m.g, nil, x.ID))
	}
	return r
}

// look reports whether no view is good everywhere unless the first numbers are those of the best matching, and what is counted is its weight; it counts how often these were found.
func (r *trial) look(l []api.Named) bool {
	sum := 0
	for _, v := range r.views {
		v.Labels = l
		if !blossom.Good(v) {
			return true
		}
		sum += blossom.Count(v)
	}
	r.found++
	return firsts(l) == r.want && sum == r.weight
}

// heavier returns the graph of m, in which some edges that are not in the best matching are heavier, but not so heavy that it is another one.
func heavier(r *rand.Rand, m model) api.Graph {
	g := api.Graph{Vertices: m.g.Vertices, Edges: slices.Clone(m.g.Edges)}
	for range 1 + r.Intn(4) {
		i := r.Intn(len(g.Edges))
		if slices.Contains(m.edges, g.Edges[i].ID) {
			continue
		}
		w := g.Edges[i].Weight
		g.Edges[i].Weight = min(w+1+r.Intn([]int{2, 8, 300}[r.Intn(3)]), 1000)
		if !slices.Equal(listOf(bestOf(bondsOf(g)).edges), m.edges) {
			g.Edges[i].Weight = w
		}
	}
	return g
}

// renamed returns l with other names of the sets, some of which become two sets with the same members, if there is room for these.
func renamed(r *rand.Rand, l []api.Named) []api.Named {
	shift, scale, split := r.Intn(1<<40)-1<<39, 2+r.Intn(5), map[[2]int]int{}
	full := slices.ContainsFunc(l, func(x api.Named) bool { return len(setsOf(x.Label)) > 5 })
	var all []api.Named
	for _, x := range l {
		y := api.Named{ID: x.ID, Label: slices.Clone(x.Label[:2])}
		for _, s := range setsOf(x.Label) {
			name := [2]int{s[0], s[1]}
			if _, ok := split[name]; !ok && !full {
				split[name] = r.Intn(s[3])
			}
			least, size, first := s[0]+shift, s[1]*scale-90, split[name]
			if first > 0 {
				y.Label = append(y.Label, least, size, s[2], first)
			}
			y.Label = append(y.Label, least, size+1, s[2], s[3]-first)
		}
		all = append(all, y)
	}
	return all
}

// P13.3, P13.4: other labels may be good everywhere, too: with the duals of a graph in which other edges are heavier, and with other names of sets; the edges are the same.
func TestOtherGoodLabels(t *testing.T) {
	var others, sets atomic.Int64
	inParallel(samples(), func(i int, m model) {
		r := rand.New(rand.NewSource(int64(i)))
		x := trialOf(m)
		for range 6 {
			if len(m.g.Edges) == 0 {
				return
			}
			l, e := blossom.Labels(heavier(r, m))
			if e != api.OK {
				t.Error(e)
			}
			if text(l) != text(m.labels()) {
				others.Add(1)
			}
			if r.Intn(2) == 0 {
				l = renamed(r, l)
				if slices.ContainsFunc(l, func(x api.Named) bool { return len(x.Label) > 2 }) {
					sets.Add(1)
				}
			}
			if found := x.found; !x.look(l) || x.found == found {
				t.Errorf("%+v: %v", m.g, l)
				return
			}
		}
	})
	if others.Load() < 2000 || sets.Load() < 1000 {
		t.Error("too few others:", others.Load(), sets.Load())
	}
}

// P13.3: sets that no graph would have: of one vertex, of two of them, of some that are not connected, or with several bases.
func TestStrangeSets(t *testing.T) {
	g := numbered(4, [3]int{0, 1, 3}, [3]int{2, 3, 5})
	a, b := priceOf(g.Edges[0]), priceOf(g.Edges[1])
	for i, l := range [][][]int{
		{{0, a}, {0, a}, {1, b}, {1, b}},
		{{0, 0}, {0, 2 * a}, {1, b + 1}, {1, b - 1}},
		{{0, a, 0, 1, 0, 9}, {0, a, 1, 1, 1, most}, {1, b}, {1, b}},
		{{0, 0, 0, 2, 0, 2 * a}, {0, 0, 0, 2, 0, 2 * a}, {1, b}, {1, b}},
		{{0, 0, -7, -3, 77, 2 * a}, {0, 0, -7, -3, 77, 2 * a}, {1, b}, {1, b}},
		{{0, 0, 0, 4, 0, 2 * a}, {0, 0, 0, 4, 0, 2 * a}, {1, b - 1, 0, 4, 3, 2}, {1, b - 1, 0, 4, 3, 2}},
		{{0, a - 1, 0, 3, 0, 2}, {0, a - 1, 0, 3, 0, 2}, {1, b, 0, 3, 2, 8}, {1, b}},
	} {
		var labels []api.Named
		for id, x := range l {
			labels = append(labels, api.Named{ID: id, Label: x})
		}
		if !allGood(t, g, labels) {
			t.Errorf("%d: %v", i, labels)
		}
		for k := range labels {
			bent := slices.Clone(labels)
			bent[k] = api.Named{ID: k, Label: slices.Clone(bent[k].Label)}
			bent[k].Label[1]++
			if allGood(t, g, bent) {
				t.Errorf("%d: %v", i, bent)
			}
		}
	}
}

// compact returns graphs of two to four vertices on which many labels are tried.
func compact() []api.Graph {
	return []api.Graph{
		graphOf(2),
		graphOf(2, edge(37, 0, 1, 0), edge(38, 1, 0, 0)),
		graphOf(2, edge(37, 0, 1, -1), edge(38, 1, 1, 0)),
		graphOf(3, edge(38, 0, 1, 0), edge(39, 1, 2, 0)),
		graphOf(3, edge(37, 0, 1, 0), edge(38, 1, 2, 0), edge(39, 2, 0, 0)),
		graphOf(3, edge(37, 2, 1, 1), edge(38, 0, 2, 1), edge(39, 0, 1, 1)),
		graphOf(3, edge(37, 2, 1, 1), edge(38, 0, 2, 3), edge(39, 0, 1, 2)),
		graphOf(4, edge(37, 0, 1, 0), edge(38, 1, 2, 0), edge(39, 2, 3, 0)),
		graphOf(4, edge(37, 0, 1, 1), edge(38, 1, 2, 2), edge(39, 2, 3, 1)),
		graphOf(4, edge(36, 0, 1, 4), edge(37, 1, 2, 4), edge(38, 2, 0, 4), edge(39, 2, 3, 1)),
		graphOf(4, edge(36, 0, 1, 4), edge(37, 1, 2, 4), edge(38, 2, 0, 4), edge(39, 2, 3, 0)),
		graphOf(4, edge(36, 0, 1, 1), edge(37, 1, 2, 1), edge(38, 2, 3, 1), edge(39, 3, 0, 1)),
	}
}

// choices returns labels that vertices of the graph of m may have: with all edges, and with duals that are prices or in true labels, or near them.
func choices(m model) [][]int {
	edges, duals := []int{-1}, []int{0}
	for _, b := range m.bonds {
		edges = append(edges, b.edge)
		duals = append(duals, b.price)
	}
	for _, y := range m.family.y {
		duals = append(duals, y)
	}
	sets, z := [][]int{nil}, []int{1}
	for _, x := range m.family.z {
		z = append(z, x, x-1)[1:]
	}
	for _, v := range m.g.Vertices[:min(len(m.g.Vertices), 3)] {
		for _, x := range z {
			sets = append(sets, []int{0, 3, v.ID, x})
		}
	}
	slices.Sort(duals)
	return labelsBetween(edges, slices.Compact(duals), sets[:min(len(sets), 10)])
}

// P13.3: no other labels are good everywhere than those with the right edges: many labels are tried together, for all vertices of small graphs.
func TestOnlyTrueLabelsAreGood(t *testing.T) {
	inParallel(modelsOf(compact()), func(_ int, m model) {
		l := choices(m)
		for _, x := range m.labels() {
			l = append(l, x.Label)
		}
		r := trialOf(m)
		labels := make([]api.Named, len(m.g.Vertices))
		// A view that has all of its labels and is not good does not become good by the labels of other vertices.
		bad := func(i int) bool {
			return slices.ContainsFunc(r.views, func(v api.View) bool {
				last := v.Vertex.ID
				for _, e := range v.Edges {
					last = max(last, e.From, e.To)
				}
				v.Labels = labels
				return last == i && !blossom.Good(v)
			})
		}
		var try func(i int) bool
		try = func(i int) bool {
			if i == len(labels) {
				return r.look(labels)
			}
			for _, x := range l {
				labels[i] = api.Named{ID: i, Label: x}
				if !bad(i) && !try(i+1) {
					return false
				}
			}
			return true
		}
		if !try(0) {
			t.Errorf("%+v: %v", m.g, labels)
		}
		if r.found == 0 {
			t.Errorf("%+v: none", m.g)
		}
	})
}

// claim returns the graph of m with so many of its edges that l is the best matching: labels of this graph are as good as they can be for whoever claims that l is the best one.
func claim(m model, l []bond) api.Graph {
	kept := slices.Clone(l)
	want := idsOf(l)
	for _, b := range m.bonds {
		if more := append(slices.Clone(kept), b); !slices.Contains(l, b) && slices.Equal(listOf(bestOf(more).edges), want) {
			kept = more
		}
	}
	ids := idsOf(kept)
	g := api.Graph{Vertices: m.g.Vertices}
	for _, e := range m.g.Edges {
		if slices.Contains(ids, e.ID) {
			g.Edges = append(g.Edges, e)
		}
	}
	return g
}

// P13.3: whatever other matching is claimed, with labels that are as good as they can be, some view is not good.
func TestOtherMatchings(t *testing.T) {
	var claims atomic.Int64
	inParallel(few(slices.Concat(samples(), small()), 11), func(_ int, m model) {
		r := trialOf(m)
		for _, l := range matchings(m.bonds) {
			claims.Add(1)
			labels, e := blossom.Labels(claim(m, l))
			if e != api.OK || !r.look(labels) {
				t.Errorf("%+v: %v", m.g, labels)
				return
			}
		}
		if r.found != 1 {
			t.Errorf("%+v: %d are good", m.g, r.found)
		}
	})
	if claims.Load() < 20000 {
		t.Error("too few claims:", claims.Load())
	}
}

// P13.3: whatever edges the vertices of small graphs claim, agreeing or not, with the true duals.
func TestOtherClaims(t *testing.T) {
	inParallel(small(), func(_ int, m model) {
		r, labels := trialOf(m), m.labels()
		var try func(i int) bool
		try = func(i int) bool {
			if i == len(labels) {
				return r.look(labels)
			}
			for k := -1; k < len(m.g.Edges); k++ {
				labels[i].Label[0] = -1
				if k >= 0 {
					labels[i].Label[0] = m.g.Edges[k].ID
				}
				if !try(i + 1) {
					return false
				}
			}
			return true
		}
		if !try(0) || r.found != 1 {
			t.Errorf("%+v: %v, %d", m.g, labels, r.found)
		}
	})
}

// bent returns a graph that differs from g in some edges: they are missing, or have other weights.
func bent(r *rand.Rand, g api.Graph, best []int) api.Graph {
	h := api.Graph{Vertices: g.Vertices, Edges: slices.Clone(g.Edges)}
	for range 1 + r.Intn(3) {
		if len(h.Edges) == 0 {
			break
		}
		i := r.Intn(len(h.Edges))
		if k := slices.IndexFunc(h.Edges, func(e api.Edge) bool { return slices.Contains(best, e.ID) }); k >= 0 && r.Intn(2) == 0 {
			i = k
		}
		switch r.Intn(3) {
		case 0:
			h.Edges = slices.Delete(h.Edges, i, i+1)
		case 1:
			h.Edges[i].Weight = r.Intn(1001)
		case 2:
			h.Edges[i].Weight = max(0, min(1000, h.Edges[i].Weight+r.Intn(11)-5))
		}
	}
	return h
}

// P13.3: lies about the matchings of greater graphs, which all vertices tell alike, or some of them: what would be true in another graph.
func TestLies(t *testing.T) {
	r := rand.New(rand.NewSource(4))
	lies, found := 0, 0
	for _, m := range samples() {
		if len(m.edges) == 0 {
			continue
		}
		x, truth := trialOf(m), m.labels()
		for range 6 {
			l := labelsOf(t, bent(r, m.g, m.edges))
			if r.Intn(3) == 0 {
				for i := range l {
					if r.Intn(6) == 0 {
						l[i] = truth[i]
					}
				}
			}
			if r.Intn(3) == 0 {
				for i := range l {
					k := r.Intn(2)
					l[i].Label[k] = truth[i].Label[k]
				}
			}
			if firsts(l) != x.want {
				lies++
			}
			if !x.look(l) {
				t.Fatalf("%+v: %v", m.g, l)
			}
		}
		found += x.found
	}
	if lies < 4000 || found < 200 {
		t.Error("too few lies:", lies, found)
	}
}

// P13.5: twice the value of the best matching is the sum of all duals, and of those of sets for each pair in them; sets are odd, and nested or apart.
func TestDuality(t *testing.T) {
	nested, apart := 0, 0
	for _, m := range slices.Concat(samples(), small()) {
		d := dualsOf(t, m.g)
		if len(d.Duals) != len(m.g.Vertices) {
			t.Fatalf("%+v: %v", m.g, d)
		}
		sum := 0
		for _, y := range d.Duals {
			sum += y
			if y < 0 {
				t.Fatalf("%+v: %v", m.g, d)
			}
		}
		for i, o := range d.Odds {
			sum += o.Dual * (len(o.Members) - 1) / 2
			if o.Dual <= 0 || len(o.Members) < 3 || len(o.Members)%2 == 0 || !slices.IsSorted(o.Members) || len(slices.Compact(slices.Clone(o.Members))) != len(o.Members) {
				t.Fatalf("%+v: %v", m.g, d)
			}
			for _, q := range d.Odds[i+1:] {
				both := 0
				for _, v := range o.Members {
					if slices.Contains(q.Members, v) {
						both++
					}
				}
				switch {
				case both == 0:
					apart++
				case both == min(len(o.Members), len(q.Members)) && len(o.Members) != len(q.Members):
					nested++
				default:
					t.Fatalf("%+v: %v", m.g, d)
				}
			}
		}
		if value := valueOf(chosen(m.bonds, matchingOf(t, m.g))); sum != 2*value {
			t.Fatalf("%+v: %d, not %d", m.g, sum, 2*value)
		}
	}
	if nested < 1000 || apart < 500 {
		t.Error("too few pairs of sets:", nested, apart)
	}
}

// P13.6: without one of its edges, or with a lighter one, no matching is better than the best one was; without another edge, or with a lighter one of these, it stays.
func TestLessOfAnEdge(t *testing.T) {
	r := rand.New(rand.NewSource(5))
	worse, same := 0, 0
	for _, m := range slices.Concat(samples(), small()) {
		before := matchingOf(t, m.g)
		for _, b := range m.bonds {
			c := api.Change{Kind: api.CDropEdge, ID: b.edge}
			if r.Intn(2) == 0 {
				c = api.Change{Kind: api.CWeight, ID: b.edge, N: []int{b.weight - 1, -1, r.Intn(b.weight+1001) - 1000}[r.Intn(3)]}
			}
			if c.Kind == api.CWeight && c.N >= b.weight {
				continue
			}
			h, e := graph.Apply(m.g, c)
			must(t, e)
			after := matchingOf(t, h)
			if !slices.Contains(before, b.edge) {
				same++
				if !slices.Equal(after, before) {
					t.Fatalf("%+v, %+v: %v, not %v", m.g, c, after, before)
				}
				continue
			}
			worse++
			if value := valueOf(chosen(bondsOf(h), after)); value >= m.value {
				t.Fatalf("%+v, %+v: %v, %d", m.g, c, after, value)
			}
		}
	}
	if worse < 5000 || same < 5000 {
		t.Error("too few:", worse, same)
	}
}

// P13.6: a loop, or an edge with a negative weight, changes nothing.
func TestUnusableEdges(t *testing.T) {
	r := rand.New(rand.NewSource(6))
	tried := 0
	for _, m := range slices.Concat(samples(), samples(), small()) {
		if len(m.g.Vertices) == 0 {
			continue
		}
		e := edge(r.Intn(40), m.g.Vertices[r.Intn(len(m.g.Vertices))].ID, m.g.Vertices[r.Intn(len(m.g.Vertices))].ID, -1-r.Intn(1000))
		if r.Intn(2) == 0 {
			e.From, e.Weight = e.To, r.Intn(2001)-1000
		}
		h, err := graph.Apply(m.g, api.Change{Kind: api.CAddEdge, Edge: e})
		if err != api.OK {
			continue
		}
		tried++
		l := labelsOf(t, m.g)
		if text(labelsOf(t, h)) != text(l) || text(dualsOf(t, h)) != text(dualsOf(t, m.g)) || !slices.Equal(matchingOf(t, h), m.edges) || !allGood(t, h, l) {
			t.Fatalf("%+v and %+v: %v, not %v", m.g, e, labelsOf(t, h), l)
		}
	}
	if tried < 5000 {
		t.Error("too few:", tried)
	}
}

// edgeOf returns the edge of g with the number id.
func edgeOf(g api.Graph, id int) api.Edge {
	return g.Edges[slices.IndexFunc(g.Edges, func(e api.Edge) bool { return e.ID == id })]
}

// joinedBy reports whether the edges l hang together.
func joinedBy(l []api.Edge) bool {
	been := map[int]bool{}
	var visit func(e api.Edge)
	visit = func(e api.Edge) {
		been[e.ID] = true
		for _, f := range l {
			if !been[f.ID] && (e.From == f.From || e.From == f.To || e.To == f.From || e.To == f.To) {
				visit(f)
			}
		}
	}
	visit(l[0])
	return len(been) == len(l)
}

// otherEdge returns a change of one edge of g, or of one that it gets or loses.
func otherEdge(r *rand.Rand, g api.Graph) api.Change {
	e := edge(r.Intn(40), r.Intn(24), r.Intn(24), r.Intn([]int{3, 10, 1001}[r.Intn(3)]))
	if n := len(g.Vertices); n > 0 && r.Intn(4) > 0 {
		e.From, e.To = g.Vertices[r.Intn(n)].ID, g.Vertices[r.Intn(n)].ID
	}
	if len(g.Edges) == 0 || r.Intn(3) == 0 {
		return api.Change{Kind: api.CAddEdge, Edge: e}
	}
	e.ID = g.Edges[r.Intn(len(g.Edges))].ID
	if r.Intn(2) == 0 {
		return api.Change{Kind: api.CDropEdge, ID: e.ID}
	}
	return api.Change{Kind: api.CWeight, ID: e.ID, N: []int{e.Weight, r.Intn(2001) - 1000, 1000, -1}[r.Intn(4)]}
}

// P13.7: the best matchings before and after one edge was changed differ by one path or one cycle, on which edges of both alternate.
func TestOneEdgeChanged(t *testing.T) {
	r := rand.New(rand.NewSource(7))
	same, paths, cycles, lengths := 0, 0, 0, map[int]int{}
	for _, m := range slices.Concat(samples(), samples(), samples(), samples(), small()) {
		c := otherEdge(r, m.g)
		h, err := graph.Apply(m.g, c)
		if err != api.OK {
			continue
		}
		after := matchingOf(t, h)
		var differ []api.Edge
		for id := range 40 {
			if in := slices.Contains(m.edges, id); in != slices.Contains(after, id) && in {
				differ = append(differ, edgeOf(m.g, id))
			} else if in != slices.Contains(after, id) {
				differ = append(differ, edgeOf(h, id))
			}
		}
		if len(differ) == 0 {
			same++
			continue
		}
		// Edges of one matching have no ends in common, so where two meet, they are of both by turns; all have to hang together.
		ends, tips := map[int]int{}, 0
		for _, e := range differ {
			ends[e.From]++
			ends[e.To]++
		}
		for _, n := range ends {
			if n == 1 {
				tips++
			}
			if n > 2 {
				t.Fatalf("%+v, %+v: %v, %v", m.g, c, m.edges, after)
			}
		}
		if !joinedBy(differ) || tips != 0 && tips != 2 {
			t.Fatalf("%+v, %+v: %v, %v", m.g, c, m.edges, after)
		}
		lengths[len(differ)]++
		if tips == 0 {
			cycles++
		} else {
			paths++
		}
	}
	if same < 300 || paths < 1000 || cycles < 20 || lengths[3] < 100 || lengths[5] < 20 || lengths[7] < 10 {
		t.Error("too few of some kind:", same, paths, cycles, lengths)
	}
}

// P13.7: a longest path, and a longest cycle.
func TestAllEdgesChange(t *testing.T) {
	g := ring(24, 5)
	g.Edges = g.Edges[1:23]
	odd := []int{1, 3, 5, 7, 9, 11, 13, 15, 17, 19, 21}
	wantMatching(t, g, odd...)
	g.Edges = append([]api.Edge{edge(0, 0, 1, 5)}, g.Edges...)
	even := []int{0, 2, 4, 6, 8, 10, 12, 14, 16, 18, 20, 22}
	wantMatching(t, g, even...)
	g = ring(24, 5)
	wantMatching(t, g, even...)
	g.Edges[22].Weight = 4
	wantMatching(t, g, append(odd, 23)...)
}

// P13.1: directions, capacities, depots and sides play no part.
func TestNoPart(t *testing.T) {
	r := rand.New(rand.NewSource(8))
	for _, m := range samples() {
		h := api.Graph{Vertices: slices.Clone(m.g.Vertices), Edges: slices.Clone(m.g.Edges)}
		for i, e := range h.Edges {
			h.Edges[i].Cap, h.Edges[i].Directed = r.Intn(1001), r.Intn(2) == 0
			if r.Intn(2) == 0 {
				h.Edges[i].From, h.Edges[i].To = e.To, e.From
			}
		}
		for i := range h.Vertices {
			h.Vertices[i].Side = r.Intn(4)
		}
		if n := len(h.Vertices); n > 0 && r.Intn(2) == 0 {
			h.Depots = []int{h.Vertices[r.Intn(n)].ID}
		}
		l := labelsOf(t, m.g)
		if now := labelsOf(t, h); text(now) != text(l) || !allGood(t, h, l) {
			t.Fatalf("%+v and %+v: %v, not %v", m.g, h, now, l)
		}
		if !slices.Equal(matchingOf(t, h), m.edges) || text(dualsOf(t, h)) != text(m.dual()) {
			t.Fatalf("%+v and %+v", m.g, h)
		}
	}
}
