package page_test

import (
	"math/rand"
	"slices"
	"testing"

	"clearway/api"
	"clearway/graph"
	"clearway/page"
)

// randomChange returns a change that acts on g; a CAddVertex if the numbers of the others do not fit.
func randomChange(r *rand.Rand, g api.Graph) api.Change {
	ids := []int{0}
	for _, v := range g.Vertices {
		ids = append(ids, v.ID)
	}
	some := func() int { return ids[r.Intn(len(ids))] }
	for {
		fresh := api.Vertex{ID: r.Intn(24), Side: r.Intn(4)}
		a, edge := some(), r.Intn(40)
		if len(g.Edges) > 0 {
			edge = g.Edges[r.Intn(len(g.Edges))].ID
		}
		var ends []int
		for _, e := range g.Edges {
			if e.From == a && r.Intn(2) == 0 {
				ends = append(ends, 2*e.ID)
			}
			if e.To == a && r.Intn(2) == 0 {
				ends = append(ends, 2*e.ID+1)
			}
		}
		d := []int{some(), some(), some()}[:r.Intn(4)]
		slices.Sort(d)
		c := []api.Change{
			{Kind: api.CAddVertex, Vertex: fresh},
			{Kind: api.CDropVertex, ID: a},
			{Kind: api.CAddEdge, Edge: randomEdge(r, r.Intn(40), ids)},
			{Kind: api.CDropEdge, ID: edge},
			{Kind: api.CWeight, ID: edge, N: r.Intn(2001) - 1000},
			{Kind: api.CCap, ID: edge, N: r.Intn(1001)},
			{Kind: api.CContract, ID: a, N: some()},
			{Kind: api.CSplit, ID: a, Vertex: fresh, Ends: ends},
			{Kind: api.CSide, ID: a, N: r.Intn(4)},
			{Kind: api.CDepots, Depots: d},
		}[r.Intn(10)]
		if _, e := graph.Apply(g, c); e == api.OK || len(g.Vertices) == 24 && len(g.Edges) == 40 {
			return c
		}
	}
}

// small returns many different small graphs: with up to three vertices, and up to two edges.
func small() []api.Graph {
	var l []api.Graph
	for _, ids := range [][]int{{}, {0}, {1}, {23}, {0, 1}, {0, 23}, {0, 1, 23}} {
		var edges [][]api.Edge
		edges = append(edges, nil)
		for _, a := range ids {
			for _, b := range ids {
				for _, id := range []int{0, 1, 39} {
					e := api.Edge{ID: id, From: a, To: b}
					f, w, c := e, e, e
					f.Directed, w.Weight, c.Cap = true, 1, 1
					edges = append(edges, []api.Edge{e}, []api.Edge{f}, []api.Edge{w}, []api.Edge{c})
					for next := id + 1; next < 40; next += 37 {
						edges = append(edges, []api.Edge{e, {ID: next, From: b, To: a, Directed: true}})
					}
				}
			}
		}
		for _, x := range edges {
			g := graphOf(ids, x, nil)
			l = append(l, g)
			for i, id := range ids {
				h := graphOf(ids, x, []int{id})
				l = append(l, h, graphOf(ids, x, ids[:i]))
				h = graphOf(ids, x, nil)
				h.Vertices[i].Side = 1 + i
				l = append(l, h)
			}
		}
	}
	return l
}

// P6.3: graphs with the same root are the same: all of many small graphs, and chains of changes.
func TestRootDeterminesTheGraph(t *testing.T) {
	roots := map[string]api.Graph{}
	add := func(g api.Graph) {
		s, e := page.Root(g)
		must(t, e)
		if h, ok := roots[s]; ok && !graph.Same(g, h) {
			t.Fatalf("%+v and %+v have the same root", g, h)
		}
		roots[s] = g
	}
	for _, g := range append(small(), samples()...) {
		add(g)
	}
	r := rand.New(rand.NewSource(6))
	for range 50 {
		g := randomGraph(r)
		for range 30 {
			h, e := graph.Apply(g, randomChange(r, g))
			if e == api.OK {
				g = h
			}
			add(g)
		}
	}
	if len(roots) < 1500 {
		t.Error("too few roots:", len(roots))
	}
}

// named returns the vertices whose pages the change c of g may change, and whether it may change the header.
func named(g api.Graph, c api.Change) ([]int, bool) {
	ends := func(id int) []int {
		for _, e := range g.Edges {
			if e.ID == id {
				return []int{e.From, e.To}
			}
		}
		return nil
	}
	others := func(id int) []int {
		l := []int{id}
		for _, e := range g.Edges {
			if e.From == id || e.To == id {
				l = append(l, e.From, e.To)
			}
		}
		return l
	}
	switch c.Kind {
	case api.CAddVertex:
		return []int{c.Vertex.ID}, false
	case api.CDropVertex, api.CSide:
		return []int{c.ID}, false
	case api.CAddEdge:
		return []int{c.Edge.From, c.Edge.To}, true
	case api.CDropEdge:
		return ends(c.ID), true
	case api.CWeight, api.CCap:
		return ends(c.ID), false
	case api.CContract:
		return append(others(c.ID), c.N), false
	case api.CSplit:
		return append(others(c.ID), c.Vertex.ID), false
	}
	return nil, true
}

// P6.4: a change leaves all pages but those of the vertices that it concerns, and mostly the header.
func TestLocality(t *testing.T) {
	r := rand.New(rand.NewSource(7))
	seen := map[int]int{}
	for range 10000 {
		g := randomGraph(r)
		c := randomChange(r, g)
		h, e := graph.Apply(g, c)
		if e != api.OK {
			continue
		}
		seen[c.Kind]++
		may, header := named(g, c)
		for id := range 24 {
			a, _ := page.Page(g, id)
			b, _ := page.Page(h, id)
			if a != b && !slices.Contains(may, id) {
				t.Fatalf("%+v changes the page of %d in %+v", c, id, g)
			}
		}
		x, _ := page.Entries(g)
		y, _ := page.Entries(h)
		if x[len(x)-1] != y[len(y)-1] && !header {
			t.Fatalf("%+v changes the header of %+v", c, g)
		}
		if c.Kind == api.CAddEdge && x[len(x)-1] == y[len(y)-1] {
			t.Fatalf("%+v leaves the header of %+v", c, g)
		}
	}
	for kind := api.CAddVertex; kind <= api.CDepots; kind++ {
		if seen[kind] < 100 {
			t.Error("too few changes of the kind", kind, seen[kind])
		}
	}
}

// P6.5: each edge stands in the pages of both of its ends, a loop once, and nowhere else.
func TestEdgesOnPages(t *testing.T) {
	for _, g := range samples() {
		where := map[api.Edge][]int{}
		l, _ := page.Entries(g)
		for _, x := range l[:len(l)-1] {
			v, edges, ok := readPage(x.Value)
			if !ok || v.ID != x.Key {
				t.Fatalf("%x is no page of %d", x.Value, x.Key)
			}
			for _, e := range edges {
				where[e] = append(where[e], v.ID)
			}
		}
		for _, e := range g.Edges {
			want := []int{min(e.From, e.To), max(e.From, e.To)}
			if !slices.Equal(where[e], slices.Compact(want)) {
				t.Fatalf("%+v of %+v stands on the pages of %v", e, g, where[e])
			}
		}
		if len(where) != len(g.Edges) {
			t.Fatalf("%+v: %v", g, where)
		}
	}
}

// P6.6: whatever changes elsewhere in the graph, and in the labels of others, the view stays.
func TestViewSeesNothingElse(t *testing.T) {
	r := rand.New(rand.NewSource(8))
	same, different := 0, 0
	for range 6000 {
		g := randomGraph(r)
		if len(g.Vertices) == 0 {
			continue
		}
		labels := randomLabels(r, g)
		id := g.Vertices[r.Intn(len(g.Vertices))].ID
		h := g
		for range 1 + r.Intn(4) {
			if next, e := graph.Apply(h, randomChange(r, h)); e == api.OK {
				h = next
			}
		}
		near := page.Neighbours(id, g.Edges)
		var other []api.Named
		for _, x := range labels {
			if x.ID == id || slices.Contains(near, x.ID) {
				other = append(other, x)
			}
		}
		for k := range 24 {
			if k != id && !slices.Contains(near, k) && r.Intn(2) == 0 {
				other = append(other, api.Named{ID: k, Label: randomLabel(r)})
			}
		}
		slices.SortFunc(other, func(a, b api.Named) int { return a.ID - b.ID })
		a, _ := page.Page(g, id)
		b, _ := page.Page(h, id)
		v, e := page.View(g, labels, id)
		w, f := page.View(h, other, id)
		if a == b && slices.Equal(g.Depots, h.Depots) {
			same++
			if e != api.OK || f != api.OK || text(v) != text(w) {
				t.Fatalf("%+v, %d and %+v, %d", v, e, w, f)
			}
		} else if different++; text(v) == text(w) {
			t.Fatalf("another page or depots, and the same view: %+v", v)
		}
	}
	if same < 500 || different < 500 {
		t.Error("too few:", same, different)
	}
}
