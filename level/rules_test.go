package level_test

import (
	"math/rand"
	"slices"
	"sync"
	"testing"

	"clearway/api"
	"clearway/graph"
	"clearway/level"
)

// roomy returns a copy of l with spare capacity, which is filled with x.
func roomy[T any](l []T, x T) []T {
	return append(slices.Clone(l), x, x, x)[:len(l)]
}

// roomyForest returns a copy of s whose lists have spare capacity, and roomyGraph one of g.
func roomyForest(s api.Leveled) api.Leveled {
	s.Vertices, s.Links = roomy(s.Vertices, 99), roomy(s.Links, api.Link{ID: 99})
	return s
}

func roomyGraph(g api.Graph) api.Graph {
	return api.Graph{Vertices: roomy(g.Vertices, api.Vertex{ID: 99}), Edges: roomy(g.Edges, api.Edge{ID: 99}), Depots: roomy(g.Depots, 99)}
}

// wholeText returns a text of the lists of s and g with their spare capacities.
func wholeText(s api.Leveled, g api.Graph) string {
	lists := []any{s.Vertices[:cap(s.Vertices)], s.Links[:cap(s.Links)], g.Vertices[:cap(g.Vertices)], g.Edges[:cap(g.Edges)], g.Depots[:cap(g.Depots)]}
	sizes := []int{len(s.Vertices), len(s.Links), len(g.Vertices), len(g.Edges), len(g.Depots), s.Raised}
	return text(lists) + text(sizes)
}

// overwrite writes x to all of l, and to its spare capacity.
func overwrite[T any](l []T, x T) {
	l = l[:cap(l)]
	for i := range l {
		l[i] = x
	}
}

// overwriteForest overwrites the lists of s.
func overwriteForest(s api.Leveled) {
	overwrite(s.Vertices, 88)
	overwrite(s.Links, api.Link{ID: 88})
}

// calls returns what all calls that return forests do with s, which belongs to g, and with numbers. Most of them are no errors for some of the numbers.
func calls(s api.Leveled, g api.Graph, c api.Change, v, id int) []api.Leveled {
	var l []api.Leveled
	add := func(d api.Leveled, e api.Errno) { l = append(l, d) }
	add(level.Make(g))
	for id := range 40 {
		add(level.Insert(s, id, v, v))
		if id%8 == 0 {
			add(level.Insert(s, id, v, s.Vertices[0]))
		}
	}
	for v := range 24 {
		add(level.Join(s, v))
		add(level.Leave(s, v))
	}
	d, _, e := level.Delete(s, id)
	add(d, e)
	add(level.Follow(s, g, c))
	add(level.Follow(s, g, api.Change{Kind: api.CSide, ID: v, N: 1}))
	add(level.Follow(s, g, api.Change{Kind: api.CSplit, ID: v, Vertex: api.Vertex{ID: id % 24}}))
	return l
}

// P8.1, R3: arguments are not changed, nor is their spare capacity.
func TestArgumentsStay(t *testing.T) {
	r := rand.New(rand.NewSource(41))
	for range 300 {
		s := roomyForest(randomForest(r))
		g := roomyGraph(graphOf(s))
		c := randomChange(r, g)
		c.Ends, c.Depots = roomy(c.Ends, 99), roomy(c.Depots, 99)
		before, change := wholeText(s, g), text(c)+text(c.Ends[:cap(c.Ends)])+text(c.Depots[:cap(c.Depots)])
		calls(s, g, c, anyOf(r, s.Vertices), r.Intn(40))
		level.Valid(s)
		level.Same(s, s)
		level.Roots(s)
		level.Connected(s, s.Vertices[0], s.Vertices[0])
		if wholeText(s, g) != before || text(c)+text(c.Ends[:cap(c.Ends)])+text(c.Depots[:cap(c.Depots)]) != change {
			t.Fatalf("arguments are changed: %+v, %+v, %+v", s, g, c)
		}
	}
}

// P8.1, R3: results share no memory with arguments, nor with each other: neither sees what is done to the other.
func TestResultsAreNew(t *testing.T) {
	r := rand.New(rand.NewSource(42))
	for range 300 {
		s := roomyForest(randomForest(r))
		g := roomyGraph(graphOf(s))
		c := randomChange(r, g)
		v, id := anyOf(r, s.Vertices), r.Intn(40)
		before := wholeText(s, g)
		want := text(calls(s, g, c, v, id))
		roots := rootsOf(t, s)
		again := calls(s, g, c, v, id)
		for i, d := range calls(s, g, c, v, id) {
			overwrite(d.Vertices, 88)
			if !equal(api.Leveled{Links: d.Links}, api.Leveled{Links: again[i].Links}) {
				t.Fatal("the lists of a result share memory")
			}
			overwriteForest(d)
		}
		overwrite(rootsOf(t, s), 88)
		if wholeText(s, g) != before || text(again) != want || !slices.Equal(rootsOf(t, s), roots) {
			t.Fatalf("results share memory with %+v", s)
		}
		overwriteForest(s)
		overwrite(g.Vertices, api.Vertex{ID: 88})
		overwrite(g.Edges, api.Edge{ID: 88})
		if text(again) != want {
			t.Fatalf("results share memory with arguments: %+v", again)
		}
	}
}

// R3: nil and empty lists are equivalent.
func TestEmptyLists(t *testing.T) {
	for _, s := range []api.Leveled{{}, {Vertices: []int{}, Links: []api.Link{}}} {
		if !level.Valid(s) || !level.Same(s, api.Leveled{}) {
			t.Error("valid, and the same")
		}
		if l, e := level.Roots(s); e != api.OK || len(l) != 0 {
			t.Error(l, e)
		}
		d, e := wantJoin(t, s, 7)
		if e != api.OK || !equal(d, api.Leveled{Vertices: []int{7}}) {
			t.Error(d, e)
		}
		if d, e = wantLeave(t, d, 7); e != api.OK || !equal(d, s) {
			t.Error(d, e)
		}
		for _, g := range []api.Graph{{}, {Vertices: []api.Vertex{}, Edges: []api.Edge{}, Depots: []int{}}} {
			c := api.Change{Kind: api.CAddVertex, Vertex: api.Vertex{ID: 3}, Ends: []int{}, Depots: []int{}}
			if d, e := wantFollow(t, s, g, c); e != api.OK || !equal(d, api.Leveled{Vertices: []int{3}}) {
				t.Error(d, e)
			}
			if d, e := wantFollow(t, s, g, api.Change{Kind: api.CDepots}); e != api.OK || !equal(d, s) {
				t.Error(d, e)
			}
		}
	}
}

// anyInt returns a number, mostly a small one.
func anyInt(r *rand.Rand) int {
	if r.Intn(8) == 0 {
		return int(r.Uint64()) >> r.Intn(64)
	}
	return r.Intn(8) - 1
}

// R1, R2: no call panics, whatever the arguments are, and errors come without values.
func TestArbitrary(t *testing.T) {
	r := rand.New(rand.NewSource(43))
	for range 20000 {
		var g api.Graph
		s := api.Leveled{Raised: anyInt(r)}
		for i := range r.Intn(5) {
			v := anyInt(r)
			if r.Intn(2) == 0 {
				v = i
			}
			s.Vertices = append(s.Vertices, v)
			s.Links = append(s.Links, api.Link{ID: i + r.Intn(2), From: anyInt(r), To: anyInt(r), Level: r.Intn(5) - r.Intn(2), Tree: r.Intn(2) == 0})
			g.Vertices = append(g.Vertices, api.Vertex{ID: v})
			g.Edges = append(g.Edges, api.Edge{ID: s.Links[i].ID, From: s.Links[i].From, To: s.Links[i].To})
		}
		checked(t, s)
		a, b, id := anyInt(r), anyInt(r), anyInt(r)
		wantInsert(t, s, id, a, b)
		wantDelete(t, s, id)
		wantJoin(t, s, a)
		wantLeave(t, s, b)
		wantConnected(t, s, a, b)
		wantRoots(t, s)
		wantFollow(t, s, g, api.Change{Kind: r.Intn(12), Vertex: api.Vertex{ID: a}, ID: id, N: b})
		wantFollow(t, s, g, api.Change{Kind: api.CDropEdge, ID: id})
		if d, e := level.Make(g); graph.Valid(g) != (e == api.OK) || e != api.OK && !equal(d, api.Leveled{}) {
			t.Fatal(d, e)
		}
	}
}

// R1: many vertices and links are no valid forest, however many there are.
func TestLongLists(t *testing.T) {
	s := api.Leveled{Vertices: make([]int, 100000), Links: make([]api.Link, 100000)}
	g := api.Graph{Vertices: make([]api.Vertex, 100000), Edges: make([]api.Edge, 100000)}
	for i := range s.Vertices {
		s.Vertices[i], s.Links[i] = i, api.Link{ID: i, From: i, To: i}
		g.Vertices[i], g.Edges[i] = api.Vertex{ID: i}, api.Edge{ID: i, From: i, To: i}
	}
	if level.Valid(s) || second(level.Make(g)) != api.ErrLevel || second(level.Follow(s, g, api.Change{Kind: api.CDropEdge, ID: 5})) != api.ErrLevel || second(level.Leave(s, 5)) != api.ErrLevel {
		t.Error("taken")
	}
}

// R4: no state is shared by calls, one after the other or at the same time (run with -race).
func TestParallel(t *testing.T) {
	s := whole()
	g := graphOf(s)
	c := api.Change{Kind: api.CContract, ID: 1, N: 5}
	want := text(calls(s, g, c, 9, 2))
	var wg sync.WaitGroup
	for range 8 {
		wg.Go(func() {
			for range 10 {
				if text(calls(s, g, c, 9, 2)) != want {
					t.Error("calls disturb each other")
				}
				calls(tower(), graphOf(tower()), c, 9, 2)
			}
		})
	}
	wg.Wait()
}
