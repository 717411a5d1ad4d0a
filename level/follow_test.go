package level_test

import (
	"math/rand"
	"slices"
	"testing"

	"clearway/api"
	"clearway/graph"
	"clearway/level"
)

// tower returns a forest with levels, a loop and a vertex alone, to which graphOf gives a graph.
func tower() api.Leveled {
	return api.Leveled{
		Vertices: []int{0, 1, 2, 3, 9},
		Links:    []api.Link{link(0, 0, 1, 1, true), link(1, 1, 2, 1, true), link(2, 2, 0, 1, false), link(3, 2, 3, 0, true), link(4, 1, 1, 0, false), link(5, 3, 1, 0, false)},
		Raised:   9,
	}
}

// P8.1: each kind of change, computed by hand.
func TestFollow(t *testing.T) {
	s := checked(t, tower())
	for i, c := range []struct {
		c        api.Change
		vertices []int
		links    []api.Link
		raised   int
	}{
		{api.Change{Kind: api.CAddVertex, Vertex: api.Vertex{ID: 5, Side: 2}}, []int{0, 1, 2, 3, 5, 9}, s.Links, 0},
		{api.Change{Kind: api.CDropVertex, ID: 9}, []int{0, 1, 2, 3}, s.Links, 0},
		{api.Change{Kind: api.CAddEdge, Edge: api.Edge{ID: 7, From: 9, To: 2, Directed: true, Weight: -4}}, s.Vertices, append(slices.Clone(s.Links), link(7, 9, 2, 0, true)), 0},
		{api.Change{Kind: api.CAddEdge, Edge: api.Edge{ID: 7, From: 3, To: 3}}, s.Vertices, append(slices.Clone(s.Links), link(7, 3, 3, 0, false)), 0},
		{api.Change{Kind: api.CDropEdge, ID: 0}, s.Vertices, []api.Link{link(1, 1, 2, 1, true), link(2, 2, 0, 1, true), link(3, 2, 3, 0, true), link(4, 1, 1, 0, false), link(5, 3, 1, 0, false)}, 0},
		{api.Change{Kind: api.CDropEdge, ID: 2}, s.Vertices, slices.Delete(slices.Clone(s.Links), 2, 3), 0},
		{api.Change{Kind: api.CWeight, ID: 0, N: 77}, s.Vertices, s.Links, 0},
		{api.Change{Kind: api.CCap, ID: 0, N: 77}, s.Vertices, s.Links, 0},
		{api.Change{Kind: api.CSide, ID: 0, N: 3}, s.Vertices, s.Links, 0},
		{api.Change{Kind: api.CDepots, Depots: []int{1, 9}}, s.Vertices, s.Links, 0},
		// No end moves.
		{api.Change{Kind: api.CSplit, ID: 2, Vertex: api.Vertex{ID: 5}}, []int{0, 1, 2, 3, 5, 9}, s.Links, 0},
		{api.Change{Kind: api.CContract, ID: 9, N: 0}, []int{0, 1, 2, 3}, s.Links, 0},
		// The loop becomes a link between the old vertex and the new one, or a loop at the new one.
		{api.Change{Kind: api.CSplit, ID: 1, Vertex: api.Vertex{ID: 5}, Ends: []int{9}}, []int{0, 1, 2, 3, 5, 9},
			[]api.Link{s.Links[0], s.Links[1], s.Links[2], s.Links[3], link(4, 1, 5, 0, true), s.Links[5]}, 0},
		{api.Change{Kind: api.CSplit, ID: 1, Vertex: api.Vertex{ID: 5}, Ends: []int{8, 9}}, []int{0, 1, 2, 3, 5, 9},
			[]api.Link{s.Links[0], s.Links[1], s.Links[2], s.Links[3], link(4, 5, 5, 0, false), s.Links[5]}, 0},
		// First the link 1 goes, and 2 replaces it; then 3 goes, and 5 replaces it. Of both that are inserted anew, 1 joins the new vertex, and 3 finds it joined.
		{api.Change{Kind: api.CSplit, ID: 2, Vertex: api.Vertex{ID: 5}, Ends: []int{3, 6}}, []int{0, 1, 2, 3, 5, 9},
			[]api.Link{s.Links[0], link(1, 1, 5, 0, true), link(2, 2, 0, 1, true), link(3, 5, 3, 0, false), s.Links[4], link(5, 3, 1, 0, true)}, 0},
		// All links at 2 go: 1 is replaced by 2, and 2 by 5, one level below; nothing replaces 3.
		{api.Change{Kind: api.CContract, ID: 2, N: 3}, []int{0, 1, 3, 9},
			[]api.Link{s.Links[0], link(1, 1, 3, 0, false), link(2, 3, 0, 0, false), link(3, 3, 3, 0, false), s.Links[4], link(5, 3, 1, 0, true)}, 0},
	} {
		g := graphOf(s)
		d, e := wantFollow(t, s, g, c.c)
		want := api.Leveled{Vertices: c.vertices, Links: c.links, Raised: s.Raised + c.raised}
		if e != api.OK || !equal(d, want) || !level.Valid(checked(t, d)) {
			t.Errorf("%d: %+v, %d, not %+v", i, d, e, want)
		}
	}
}

// P8.1: for changes that only set something, and for those of single vertices and links, Follow does what the other calls do.
func TestFollowDoesWhatOthersDo(t *testing.T) {
	counts := map[int]int{}
	walk(t, 11, 60, 60, func(_ int, x step) {
		want, e := x.s, api.OK
		switch x.c.Kind {
		case api.CAddVertex:
			want, e = level.Join(x.s, x.c.Vertex.ID)
		case api.CDropVertex:
			want, e = level.Leave(x.s, x.c.ID)
		case api.CAddEdge:
			want, e = level.Insert(x.s, x.c.Edge.ID, x.c.Edge.From, x.c.Edge.To)
		case api.CDropEdge:
			want, _, e = level.Delete(x.s, x.c.ID)
		case api.CSplit:
			want, e = level.Join(x.s, x.c.Vertex.ID)
			want = renewed(t, want, x.after)
		case api.CContract:
			want, e = level.Leave(renewed(t, x.s, x.after), x.c.ID)
		}
		must(t, e)
		if !level.Same(x.next, want) || !equal(x.next, want) {
			t.Fatalf("%+v from %+v to %+v, not %+v", x.c, x.s, x.next, want)
		}
		counts[x.c.Kind]++
	})
	for kind := 1; kind <= 10; kind++ {
		if counts[kind] < 15 {
			t.Errorf("only %d changes of the kind %d", counts[kind], kind)
		}
	}
}

// renewed returns s after all links that have other ends in g were deleted, and were inserted with these, both in ascending order.
func renewed(t *testing.T, s api.Leveled, g api.Graph) api.Leveled {
	t.Helper()
	var moved []api.Edge
	for _, x := range s.Links {
		for _, e := range g.Edges {
			if e.ID == x.ID && (e.From != x.From || e.To != x.To) {
				moved = append(moved, e)
			}
		}
	}
	for _, x := range moved {
		var e api.Errno
		s, _, e = level.Delete(s, x.ID)
		must(t, e)
	}
	for _, x := range moved {
		var e api.Errno
		s, e = level.Insert(s, x.ID, x.From, x.To)
		must(t, e)
	}
	return s
}

// P8.1: histories of changes, against the reference; the forests belong to the graphs all the time.
func TestFollowHistories(t *testing.T) {
	walk(t, 12, 200, 60, func(_ int, x step) {
		d, e := wantFollow(t, x.s, x.g, x.c)
		must(t, e)
		if !level.Same(d, x.next) || !isOf(d, x.after) {
			t.Fatalf("%+v does not belong to %+v", d, x.after)
		}
	})
}

// P8.1: forests that are not valid or do not belong to the graph, graphs that are not valid, and changes that do not act.
func TestFollowErrors(t *testing.T) {
	drop := api.Change{Kind: api.CDropEdge, ID: 0}
	weight := api.Change{Kind: api.CWeight, ID: 0, N: 5}
	for i, f := range []func(s *api.Leveled, g *api.Graph){
		func(s *api.Leveled, g *api.Graph) { s.Raised = -1 },
		func(s *api.Leveled, g *api.Graph) { s.Links[2].Level = 2 },
		func(s *api.Leveled, g *api.Graph) { s.Links[2].Tree = true },
		func(s *api.Leveled, g *api.Graph) { s.Links[5].From, s.Links[5].To = 1, 3 },
		func(s *api.Leveled, g *api.Graph) { s.Links[5].From = 2 },
		func(s *api.Leveled, g *api.Graph) { s.Links[5].To = 2 },
		func(s *api.Leveled, g *api.Graph) { s.Links[5].ID = 6 },
		func(s *api.Leveled, g *api.Graph) { s.Links = s.Links[:5] },
		func(s *api.Leveled, g *api.Graph) { s.Links = append(s.Links, link(6, 9, 9, 0, false)) },
		func(s *api.Leveled, g *api.Graph) { s.Vertices = s.Vertices[:4] },
		func(s *api.Leveled, g *api.Graph) { s.Vertices = append(s.Vertices, 10) },
		func(s *api.Leveled, g *api.Graph) { s.Vertices[4] = 8 },
		func(s *api.Leveled, g *api.Graph) { g.Vertices = g.Vertices[:4] },
		func(s *api.Leveled, g *api.Graph) { g.Vertices = append(g.Vertices, api.Vertex{ID: 10}) },
		func(s *api.Leveled, g *api.Graph) { g.Edges = g.Edges[:5] },
		func(s *api.Leveled, g *api.Graph) { g.Edges = append(g.Edges, api.Edge{ID: 6}) },
		func(s *api.Leveled, g *api.Graph) { g.Edges[1].From, g.Edges[1].To = 2, 1 },
		func(s *api.Leveled, g *api.Graph) { g.Edges[1].Weight = 1001 },
		func(s *api.Leveled, g *api.Graph) { g.Vertices[1].Side = 4 },
		func(s *api.Leveled, g *api.Graph) { g.Depots = []int{8} },
	} {
		s := tower()
		g := graphOf(s)
		f(&s, &g)
		for _, c := range []api.Change{drop, weight} {
			if d, e := wantFollow(t, s, g, c); e != api.ErrLevel || !level.Same(d, api.Leveled{}) {
				t.Errorf("%d: %+v, %d", i, d, e)
			}
		}
	}
	s := tower()
	g := graphOf(s)
	g.Depots = []int{2}
	for i, c := range []api.Change{
		{}, {Kind: 11}, {Kind: -1}, {Kind: api.CDropEdge, ID: 6}, {Kind: api.CDropEdge, ID: 0, N: 1}, {Kind: api.CDropVertex, ID: 0}, {Kind: api.CDropVertex, ID: 8},
		{Kind: api.CAddVertex, Vertex: api.Vertex{ID: 24}}, {Kind: api.CAddVertex, Vertex: api.Vertex{ID: 0}}, {Kind: api.CAddVertex, Vertex: api.Vertex{ID: 8, Side: 4}},
		{Kind: api.CAddEdge, Edge: api.Edge{ID: 0}}, {Kind: api.CAddEdge, Edge: api.Edge{ID: 40}}, {Kind: api.CAddEdge, Edge: api.Edge{ID: 7, To: 8}}, {Kind: api.CAddEdge, Edge: api.Edge{ID: 7, Weight: 1001}},
		{Kind: api.CContract, ID: 2, N: 1}, {Kind: api.CContract, ID: 1, N: 1}, {Kind: api.CContract, ID: 1, N: 8},
		{Kind: api.CSplit, ID: 1, Vertex: api.Vertex{ID: 0}}, {Kind: api.CSplit, ID: 1, Vertex: api.Vertex{ID: 8}, Ends: []int{0}}, {Kind: api.CSplit, ID: 1, Vertex: api.Vertex{ID: 8}, Ends: []int{2, 1}},
		{Kind: api.CWeight, ID: 0, N: 1001}, {Kind: api.CCap, ID: 6}, {Kind: api.CSide, ID: 0, N: 4}, {Kind: api.CDepots, Depots: []int{8}},
	} {
		if d, e := wantFollow(t, s, g, c); e != api.ErrLevel || !level.Same(d, api.Leveled{}) {
			t.Errorf("%d: %+v, %d", i, d, e)
		}
	}
}

// P8.1: random forests, graphs that differ a little from theirs, and changes that may or may not act.
func TestFollowSpoiled(t *testing.T) {
	r := rand.New(rand.NewSource(13))
	errors := map[api.Errno]int{}
	for range 3000 {
		s := randomForest(r)
		g := graphOf(s)
		c := randomChange(r, g)
		switch r.Intn(4) {
		case 0:
			spoil(r, &s)
		case 1:
			g, _ = graph.Apply(g, c)
		case 2:
			if len(g.Edges) > 0 {
				e := &g.Edges[r.Intn(len(g.Edges))]
				e.From, e.To = e.To, e.From
			}
		}
		_, e := wantFollow(t, s, g, c)
		errors[e]++
	}
	if errors[api.OK] < 500 || errors[api.ErrLevel] < 1000 {
		t.Error(errors)
	}
}
