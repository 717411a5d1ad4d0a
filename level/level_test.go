package level_test

import (
	"math"
	"math/rand"
	"slices"
	"testing"

	"clearway/api"
	"clearway/level"
)

// graphWith returns a graph with the vertices 0 to n - 1 and edges 0, 1, ... between pairs of them.
func graphWith(n int, l ...[2]int) api.Graph {
	var g api.Graph
	for v := range n {
		g.Vertices = append(g.Vertices, api.Vertex{ID: v})
	}
	for i, x := range l {
		g.Edges = append(g.Edges, api.Edge{ID: i, From: x[0], To: x[1]})
	}
	return g
}

// made returns the forest that Make makes of such a graph.
func made(t *testing.T, n int, l ...[2]int) api.Leveled {
	t.Helper()
	s, e := level.Make(graphWith(n, l...))
	must(t, e)
	return s
}

// example returns the forest of the chapter's examples, with further edges.
func example(t *testing.T, l ...[2]int) api.Leveled {
	t.Helper()
	return made(t, 4, append([][2]int{{0, 1}, {1, 2}, {2, 0}, {2, 3}}, l...)...)
}

// treesOf returns the numbers of the tree links of s.
func treesOf(s api.Leveled) []int {
	var l []int
	for _, x := range s.Links {
		if x.Tree {
			l = append(l, x.ID)
		}
	}
	return l
}

// levelsOf returns the levels of the links of s.
func levelsOf(s api.Leveled) []int {
	var l []int
	for _, x := range s.Links {
		l = append(l, x.Level)
	}
	return l
}

// rootsOf returns what Roots does.
func rootsOf(t *testing.T, s api.Leveled) []int {
	t.Helper()
	l, e := level.Roots(s)
	must(t, e)
	return l
}

// The examples of the chapter.
func TestExamples(t *testing.T) {
	s := example(t)
	if !slices.Equal(treesOf(s), []int{0, 1, 3}) || !slices.Equal(rootsOf(t, s), []int{0, 0, 0, 0}) {
		t.Error(s)
	}
	d, other, e := level.Delete(s, 3)
	if e != api.OK || other != -1 || !slices.Equal(rootsOf(t, d), []int{0, 0, 0, 3}) {
		t.Error(d, other, e)
	}
	d, other, e = level.Delete(s, 0)
	if e != api.OK || other != 2 || d.Raised != 0 {
		t.Error(d, other, e)
	}
	d, other, e = level.Delete(d, 1)
	if e != api.OK || other != -1 || !slices.Equal(rootsOf(t, d), []int{0, 1, 0, 0}) {
		t.Error(d, other, e)
	}
	s = example(t, [2]int{0, 1})
	d, other, e = level.Delete(s, 1)
	if e != api.OK || other != 2 {
		t.Error(d, other, e)
	}
	d, other, e = level.Delete(d, 0)
	if e != api.OK || other != 4 {
		t.Error(d, other, e)
	}
}

// link is short for a link that is a tree link or not.
func link(id, from, to, level int, tree bool) api.Link {
	return api.Link{ID: id, From: from, To: to, Level: level, Tree: tree}
}

// P8.1: deletions of links from forests, computed by hand.
func TestDeletions(t *testing.T) {
	for i, c := range []struct {
		links  []api.Link // between the vertices 0 to 7
		id     int
		other  int
		want   []api.Link
		raised int
	}{
		// Sides of equal size: the one with the least vertex is raised, whichever end it has.
		{[]api.Link{link(0, 0, 1, 0, true), link(1, 1, 2, 0, true), link(2, 2, 3, 0, true)}, 1, -1,
			[]api.Link{link(0, 0, 1, 1, true), link(2, 2, 3, 0, true)}, 1},
		{[]api.Link{link(0, 0, 1, 0, true), link(1, 2, 1, 0, true), link(2, 2, 3, 0, true)}, 1, -1,
			[]api.Link{link(0, 0, 1, 1, true), link(2, 2, 3, 0, true)}, 1},
		{[]api.Link{link(0, 3, 0, 0, true), link(1, 1, 3, 0, true), link(2, 2, 1, 0, true)}, 1, -1,
			[]api.Link{link(0, 3, 0, 1, true), link(2, 2, 1, 0, true)}, 1},
		// The smaller side is raised, whichever end it has, also if the other one has the least vertex.
		{[]api.Link{link(0, 0, 1, 0, true), link(1, 1, 2, 0, true), link(2, 2, 3, 0, true), link(3, 3, 4, 0, true)}, 2, -1,
			[]api.Link{link(0, 0, 1, 0, true), link(1, 1, 2, 0, true), link(3, 3, 4, 1, true)}, 1},
		{[]api.Link{link(0, 0, 1, 0, true), link(1, 1, 2, 0, true), link(2, 3, 2, 0, true), link(3, 3, 4, 0, true)}, 2, -1,
			[]api.Link{link(0, 0, 1, 0, true), link(1, 1, 2, 0, true), link(3, 3, 4, 1, true)}, 1},
		// Links within the small side are raised up to the replacement, not behind it; loops are not, nor what is elsewhere.
		{[]api.Link{link(0, 0, 0, 0, false), link(1, 0, 1, 0, true), link(2, 1, 0, 0, false), link(3, 1, 2, 0, true), link(4, 2, 3, 0, true), link(5, 3, 2, 0, false), link(6, 3, 0, 0, false), link(7, 1, 0, 0, false), link(8, 1, 3, 0, false), link(9, 6, 7, 0, true)}, 3, 6,
			[]api.Link{link(0, 0, 0, 0, false), link(1, 0, 1, 1, true), link(2, 1, 0, 1, false), link(4, 2, 3, 0, true), link(5, 3, 2, 0, false), link(6, 3, 0, 0, true), link(7, 1, 0, 0, false), link(8, 1, 3, 0, false), link(9, 6, 7, 0, true)}, 2},
		// Tree links are raised before others are looked at, also those with greater numbers than the replacement.
		{[]api.Link{link(0, 0, 2, 0, false), link(1, 1, 2, 0, true), link(2, 2, 3, 0, true), link(3, 0, 1, 0, true)}, 1, 0,
			[]api.Link{link(0, 0, 2, 0, true), link(2, 2, 3, 0, true), link(3, 0, 1, 1, true)}, 1},
		// The search begins at the level of the link: a link with this level goes before one with a lesser number and a lower level.
		{[]api.Link{link(0, 0, 1, 0, false), link(1, 0, 1, 1, true), link(2, 0, 1, 1, false)}, 1, 2,
			[]api.Link{link(0, 0, 1, 0, false), link(2, 0, 1, 1, true)}, 0},
		// It goes on one level below, with the small side of that level; the replacement keeps its level.
		{[]api.Link{link(0, 0, 1, 1, true), link(1, 1, 2, 1, true), link(2, 2, 3, 1, true), link(3, 3, 4, 0, true), link(4, 0, 1, 1, false), link(5, 1, 3, 0, false)}, 1, 5,
			[]api.Link{link(0, 0, 1, 2, true), link(2, 2, 3, 1, true), link(3, 3, 4, 0, true), link(4, 0, 1, 2, false), link(5, 1, 3, 0, true)}, 2},
		// At the level 1 the small side is 0 alone, at the level 0 it is 1 with 2, as 0 has further vertices there.
		{[]api.Link{link(0, 0, 1, 1, true), link(1, 1, 2, 0, true), link(2, 0, 3, 0, true), link(3, 3, 4, 0, true), link(4, 2, 1, 0, false)}, 0, -1,
			[]api.Link{link(1, 1, 2, 1, true), link(2, 0, 3, 0, true), link(3, 3, 4, 0, true), link(4, 2, 1, 1, false)}, 2},
		// From the greatest level down to the least one.
		{[]api.Link{link(0, 0, 1, 3, true), link(1, 1, 2, 2, true), link(2, 2, 3, 1, true), link(3, 3, 4, 0, true), link(4, 0, 4, 0, false), link(5, 0, 0, 0, false)}, 0, 4,
			[]api.Link{link(1, 1, 2, 2, true), link(2, 2, 3, 1, true), link(3, 3, 4, 0, true), link(4, 0, 4, 0, true), link(5, 0, 0, 0, false)}, 0},
		{[]api.Link{link(0, 0, 1, 3, true), link(1, 0, 2, 3, true), link(2, 1, 2, 3, false), link(3, 1, 2, 2, false)}, 1, 2,
			[]api.Link{link(0, 0, 1, 3, true), link(2, 1, 2, 3, true), link(3, 1, 2, 2, false)}, 0},
		// From the level 2 to the level 3.
		{[]api.Link{link(0, 0, 1, 2, true), link(1, 1, 2, 2, true), link(2, 2, 3, 2, true), link(3, 2, 4, 2, true), link(4, 1, 0, 2, false), link(5, 1, 0, 2, false), link(6, 1, 0, 1, false)}, 1, -1,
			[]api.Link{link(0, 0, 1, 3, true), link(2, 2, 3, 2, true), link(3, 2, 4, 2, true), link(4, 1, 0, 3, false), link(5, 1, 0, 3, false), link(6, 1, 0, 2, false)}, 4},
		// No tree link: nothing else changes.
		{[]api.Link{link(0, 0, 1, 2, true), link(1, 1, 2, 0, true), link(2, 1, 0, 1, false), link(3, 1, 0, 1, false)}, 2, -1,
			[]api.Link{link(0, 0, 1, 2, true), link(1, 1, 2, 0, true), link(3, 1, 0, 1, false)}, 0},
		{[]api.Link{link(0, 0, 1, 0, true), link(1, 1, 1, 0, false)}, 1, -1, []api.Link{link(0, 0, 1, 0, true)}, 0},
	} {
		s := checked(t, api.Leveled{Vertices: []int{0, 1, 2, 3, 4, 5, 6, 7}, Links: c.links, Raised: 10})
		d, other, e := wantDelete(t, s, c.id)
		if e != api.OK || other != c.other || !slices.Equal(d.Links, c.want) || d.Raised != 10+c.raised || !level.Valid(d) {
			t.Errorf("%d: %+v, %d, %d", i, d, other, e)
		}
	}
}

// P8.1: Insert keeps the order, and makes a tree link exactly if the ends were not joined before, at whatever level.
func TestInsert(t *testing.T) {
	s := api.Leveled{Vertices: []int{0, 1, 2, 5, 23}, Links: []api.Link{link(3, 0, 1, 2, true), link(7, 1, 2, 0, true)}, Raised: 4}
	for i, c := range []struct {
		id, from, to int
		tree         bool
		at           int
	}{
		{0, 0, 5, true, 0}, {5, 5, 0, true, 1}, {39, 5, 23, true, 2}, {5, 0, 2, false, 1}, {39, 2, 0, false, 2}, {0, 0, 1, false, 0}, {8, 5, 5, false, 2}, {6, 1, 1, false, 1},
	} {
		d, e := wantInsert(t, s, c.id, c.from, c.to)
		want := slices.Insert(slices.Clone(s.Links), c.at, link(c.id, c.from, c.to, 0, c.tree))
		if e != api.OK || !slices.Equal(d.Links, want) || !slices.Equal(d.Vertices, s.Vertices) || d.Raised != 4 {
			t.Errorf("%d: %+v, %d", i, d, e)
		}
	}
}

// P8.1: Join and Leave keep the order, and change nothing else.
func TestJoinAndLeave(t *testing.T) {
	s := api.Leveled{Vertices: []int{1, 4, 9}, Links: []api.Link{link(3, 1, 9, 2, true)}, Raised: 4}
	for v, want := range map[int][]int{0: {0, 1, 4, 9}, 2: {1, 2, 4, 9}, 23: {1, 4, 9, 23}} {
		d, e := wantJoin(t, s, v)
		if e != api.OK || !slices.Equal(d.Vertices, want) || !slices.Equal(d.Links, s.Links) || d.Raised != 4 {
			t.Errorf("%d: %+v, %d", v, d, e)
		}
		if d, e = wantLeave(t, d, v); e != api.OK || !level.Same(d, s) {
			t.Errorf("%d: %+v, %d", v, d, e)
		}
	}
	d, e := wantLeave(t, s, 4)
	if e != api.OK || !slices.Equal(d.Vertices, []int{1, 9}) || !slices.Equal(d.Links, s.Links) || d.Raised != 4 {
		t.Errorf("%+v, %d", d, e)
	}
	for _, v := range []int{1, 9} { // they have links
		if d, e := wantLeave(t, s, v); e != api.ErrLevel {
			t.Errorf("%d: %+v", v, d)
		}
	}
	loop := api.Leveled{Vertices: []int{1}, Links: []api.Link{link(3, 1, 1, 0, false)}}
	if d, e := wantLeave(t, loop, 1); e != api.ErrLevel {
		t.Errorf("%+v", d)
	}
}

// numbers are numbers around the limits of vertices and links, and other ones.
var numbers = []int{math.MinInt, -1 << 32, -2, -1, 0, 1, 2, 3, 22, 23, 24, 25, 38, 39, 40, 41, 1 << 32, 1<<32 + 1, math.MaxInt}

// P8.1: all calls with all numbers, on valid forests and on others, some of which are almost valid.
func TestAllNumbers(t *testing.T) {
	ring := []api.Link{link(1, 0, 1, 1, true), link(2, 1, 3, 0, true), link(23, 3, 0, 0, false), link(38, 22, 22, 0, false)}
	forests := []api.Leveled{
		{}, {Vertices: []int{0, 1, 3, 22, 23}, Links: ring, Raised: 5}, {Vertices: []int{0, 2, 3}},
		{Vertices: []int{0, 1, 3, 22, 23}, Links: ring, Raised: -1}, {Vertices: []int{0, 1, 3, 22, 24}, Links: ring},
		{Vertices: []int{1, 0, 3, 22, 23}, Links: ring}, {Vertices: []int{0, 1, 3}, Links: ring},
		{Vertices: []int{0, 1, 3, 22}, Links: append(slices.Clone(ring), link(38, 0, 1, 0, false))},
	}
	for i, s := range forests {
		checked(t, s)
		if level.Valid(s) != (i < 3) {
			t.Fatal(i)
		}
		wantRoots(t, s)
		for _, a := range numbers {
			wantDelete(t, s, a)
			wantJoin(t, s, a)
			wantLeave(t, s, a)
			for _, b := range numbers {
				wantConnected(t, s, a, b)
				wantInsert(t, s, 5, a, b)
				wantInsert(t, s, a, b, 3)
				wantInsert(t, s, a, 3, b)
			}
		}
	}
}

// P8.1: the errors, each of which has one cause only.
func TestErrors(t *testing.T) {
	s := example(t)
	bad := example(t)
	bad.Raised = -1
	for i, e := range []api.Errno{
		second(wantInsert(t, s, -1, 0, 1)), second(wantInsert(t, s, 40, 0, 1)), second(wantInsert(t, s, 3, 0, 1)), second(wantInsert(t, s, 9, 4, 1)), second(wantInsert(t, s, 9, 1, 4)), second(wantInsert(t, bad, 9, 0, 1)),
		second(wantJoin(t, s, -1)), second(wantJoin(t, s, 24)), second(wantJoin(t, s, 0)), second(wantJoin(t, bad, 9)),
		second(wantLeave(t, s, 9)), second(wantLeave(t, s, 0)), second(wantLeave(t, api.Leveled{Vertices: []int{0}, Raised: -1}, 0)),
		second(level.Roots(bad)), second(level.Connected(bad, 0, 1)), second(level.Connected(s, 0, 4)), second(level.Connected(s, 4, 0)), second(level.Connected(s, 4, 4)), second(level.Connected(s, -1, -1)),
		second(level.Make(api.Graph{Edges: []api.Edge{{}}})), second(level.Make(api.Graph{Vertices: []api.Vertex{{ID: 0, Side: 4}}})), second(level.Make(api.Graph{Depots: []int{0}})),
	} {
		if e != api.ErrLevel {
			t.Error(i, e)
		}
	}
	for i, c := range []struct {
		s  api.Leveled
		id int
	}{{bad, 0}, {s, 4}, {s, -1}, {s, 40}} {
		if d, other, e := wantDelete(t, c.s, c.id); e != api.ErrLevel || other != 0 || !level.Same(d, api.Leveled{}) {
			t.Error(i, d, other, e)
		}
	}
}

// second returns the second one of two results.
func second[T any](_ T, e api.Errno) api.Errno { return e }

// P8.1: Make inserts the edges in order, so that the first ones become tree links, and takes nothing else from the graph.
func TestMake(t *testing.T) {
	if s, e := level.Make(api.Graph{}); e != api.OK || !level.Same(s, api.Leveled{}) {
		t.Error(s, e)
	}
	r := rand.New(rand.NewSource(1))
	for range 1500 {
		g := randomGraph(r)
		m := &model{}
		for _, v := range g.Vertices {
			m.vertices |= 1 << v.ID
		}
		for _, e := range g.Edges {
			m.insert(e.ID, e.From, e.To)
		}
		s, e := level.Make(g)
		wantForest(t, s, e, m, "Make", g)
		checked(t, s)
	}
}

// P8.1: all calls on random forests.
func TestRandomForests(t *testing.T) {
	r := rand.New(rand.NewSource(2))
	levels := map[int]int{}
	for range 1500 {
		s := checked(t, randomForest(r))
		wantRoots(t, s)
		for _, x := range s.Links {
			levels[x.Level]++
			wantDelete(t, s, x.ID)
		}
		for range 8 {
			wantConnected(t, s, r.Intn(24), r.Intn(24))
			wantInsert(t, s, r.Intn(40), anyOf(r, s.Vertices), anyOf(r, s.Vertices))
			wantJoin(t, s, r.Intn(24))
			wantLeave(t, s, r.Intn(24))
		}
	}
	for i := range 4 {
		if levels[i] < 1000 {
			t.Errorf("only %d links have the level %d", levels[i], i)
		}
	}
}

// P8.1: many deletions, one after the other, each of which goes on with what the last one left.
func TestDeletionsInARow(t *testing.T) {
	r := rand.New(rand.NewSource(3))
	most, deepest := 0, 0
	for range 400 {
		s := randomForest(r)
		s, e := level.Make(graphOf(s))
		must(t, e)
		for len(s.Links) > 0 {
			l := treesOf(s)
			if len(l) == 0 || r.Intn(6) == 0 {
				l = modelOf(s).ids()
			}
			s, _, e = wantDelete(t, s, anyOf(r, l))
			must(t, e)
			checked(t, s)
			most = max(most, s.Raised)
			for _, i := range levelsOf(s) {
				deepest = max(deepest, i)
			}
		}
	}
	if most < 20 || deepest < 2 {
		t.Error("too little is raised:", most, deepest)
	}
}

// R6, P8.3: Raised is a 64-bit number, which wraps around: then the forest is not valid any more. Follow takes no notice of that on its way.
func TestRaisedWrapsAround(t *testing.T) {
	s := made(t, 4, [2]int{0, 1}, [2]int{1, 2}, [2]int{2, 3}, [2]int{3, 1})
	s.Raised = math.MaxInt
	d, other, e := wantDelete(t, s, 1)
	if e != api.OK || other != 3 || d.Raised != math.MinInt || checked(t, d).Links[0].Level != 1 {
		t.Error(d, other, e)
	}
	for _, c := range []api.Change{{Kind: api.CContract, ID: 2, N: 1}, {Kind: api.CSplit, ID: 1, Vertex: api.Vertex{ID: 9}, Ends: []int{2}}} {
		g := graphWith(4, [2]int{0, 1}, [2]int{1, 2}, [2]int{2, 3}, [2]int{3, 1})
		if d, e := wantFollow(t, s, g, c); e != api.OK || d.Raised >= 0 || checked(t, d).Links == nil {
			t.Error(d, e)
		}
	}
	s.Raised--
	if d, _, e := wantDelete(t, s, 1); e != api.OK || d.Raised != math.MaxInt || !level.Valid(d) {
		t.Error(d, e)
	}
}
