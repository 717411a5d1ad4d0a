package forest_test

import (
	"math/rand"
	"slices"
	"testing"

	"clearway/api"
	"clearway/forest"
	"clearway/page"
)

// lists returns all lists of up to most of the numbers l.
func lists(l []int, most int) [][]int {
	all := [][]int{nil}
	for begin := 0; most > 0; most-- {
		end := len(all)
		for _, x := range all[begin:end] {
			for _, n := range l {
				all = append(all, append(slices.Clone(x), n))
			}
		}
		begin = end
	}
	return all
}

// P7.2: some walk is accepted exactly if two vertices are connected, and some side exactly if they are not: all short walks and all sides of small graphs.
func TestEitherAWalkOrASide(t *testing.T) {
	for _, g := range small() {
		var ids, edges []int
		for _, v := range g.Vertices {
			ids = append(ids, v.ID)
		}
		for _, e := range g.Edges {
			edges = append(edges, e.ID)
		}
		for _, a := range ids {
			for _, b := range ids {
				walk := slices.ContainsFunc(lists(edges, 4), func(l []int) bool { return forest.CheckPath(g, a, b, l) })
				side := slices.ContainsFunc(lists(ids, 3), func(l []int) bool { return forest.CheckSide(g, a, b, l) })
				connected, e := forest.Connected(g, a, b)
				if e != api.OK || walk != connected || side == connected {
					t.Fatalf("%d and %d in %+v: %v, %v, %v", a, b, g, connected, walk, side)
				}
			}
		}
	}
}

// P7.2: Path returns a walk of connected vertices, and Side a side of others; and neither convinces anybody of the contrary.
func TestPathsAndSidesAreProofs(t *testing.T) {
	for _, g := range samples() {
		for _, v := range g.Vertices {
			side, e := forest.Side(g, v.ID)
			must(t, e)
			for _, w := range g.Vertices {
				connected, e := forest.Connected(g, v.ID, w.ID)
				must(t, e)
				path, e := forest.Path(g, v.ID, w.ID)
				if (e == api.OK) != connected || forest.CheckPath(g, v.ID, w.ID, path) != connected || forest.CheckSide(g, v.ID, w.ID, side) == connected {
					t.Fatalf("%d and %d in %+v: %v, %v, %v", v.ID, w.ID, g, connected, path, side)
				}
			}
		}
	}
}

// allGood reports whether the views of all vertices of g with the labels l are good.
func allGood(t *testing.T, g api.Graph, l []api.Named) bool {
	t.Helper()
	good := true
	for _, x := range g.Vertices {
		v, e := page.View(g, l, x.ID)
		must(t, e)
		good = wantView(t, v) && good
	}
	return good
}

// P7.3: the views of all vertices are good with the labels of Labels.
func TestLabelsAreGood(t *testing.T) {
	for _, g := range append(samples(), small()...) {
		l, e := forest.Labels(g)
		must(t, e)
		if !allGood(t, g, l) {
			t.Fatalf("%+v: %v", g, l)
		}
	}
}

// candidates returns labels for a vertex of g: all that are made of a number below all vertices, or one of theirs, of a depth, and of -1, or the number of an edge.
func candidates(g api.Graph) [][]int {
	roots, depths, edges := []int{}, []int{-1, 0, 1, 2}, []int{-1}
	for i, v := range g.Vertices {
		if i == 0 {
			roots = append(roots, v.ID-1)
		}
		roots = append(roots, v.ID)
	}
	for _, e := range g.Edges {
		edges = append(edges, e.ID)
	}
	var l [][]int
	for _, r := range roots {
		for _, d := range depths {
			for _, e := range edges {
				l = append(l, []int{r, d, e})
			}
		}
	}
	return l
}

// P7.3: no other labels are good everywhere: all candidates for all vertices of small graphs are tried together.
func TestOnlyLabelsAreGood(t *testing.T) {
	tried := 0
	for _, g := range small() {
		want, e := forest.Labels(g)
		must(t, e)
		views := make([]api.View, len(g.Vertices))
		l := slices.Clone(want)
		for i, v := range g.Vertices {
			views[i], e = page.View(g, want, v.ID)
			must(t, e)
		}
		goodAt := func(i int) bool {
			v := views[i]
			v.Labels = l
			return forest.Good(v)
		}
		found := 0
		var try func(i int)
		try = func(i int) {
			if i < len(l) {
				for _, x := range candidates(g) {
					l[i].Label = x
					try(i + 1)
				}
				return
			}
			tried++
			for i := range views {
				if !goodAt(i) {
					return
				}
			}
			if found++; text(l) != text(want) {
				t.Fatalf("%+v: %v", g, l)
			}
		}
		try(0)
		if found != 1 {
			t.Fatalf("%+v: %d", g, found)
		}
	}
	if tried < 1000000 {
		t.Error("too few:", tried)
	}
}

// rooted returns labels of g as they would be if the vertex root were the root of its component: the lie that is wrong only where vertices know their numbers.
func rooted(g api.Graph, l []api.Named, root int) []api.Named {
	m := modelOf(g)
	out := slices.Clone(l)
	for i, x := range l {
		if m[root][x.ID] == far {
			continue
		}
		label := []int{root, m[root][x.ID], -1}
		for _, e := range slices.Backward(g.Edges) {
			if e.From == x.ID && m[root][e.To] == label[1]-1 || e.To == x.ID && m[root][e.From] == label[1]-1 {
				label[2] = e.ID
			}
		}
		out[i].Label = label
	}
	return out
}

// P7.3: whatever lie is told in larger graphs is found by some vertex.
func TestLiesAreFound(t *testing.T) {
	r := rand.New(rand.NewSource(5))
	lies := 0
	for range 6000 {
		g := randomGraph(r)
		want, e := forest.Labels(g)
		must(t, e)
		l := make([]api.Named, len(want))
		for i, x := range want {
			l[i] = api.Named{ID: x.ID, Label: slices.Clone(x.Label)}
		}
		some := l[r.Intn(len(l))]
		switch r.Intn(5) {
		case 0: // one number of one label
			some.Label[r.Intn(3)] += r.Intn(7) - 3
		case 1: // another root
			l = rooted(g, l, some.ID)
		case 2: // the root of others
			k := l[r.Intn(len(l))].Label[0]
			for _, x := range l {
				if x.Label[0] == some.Label[0] {
					x.Label[0] = k
				}
			}
		case 3: // all of a component deeper
			k := some.Label[0]
			for _, x := range l {
				if x.Label[0] == k {
					x.Label[1]++
				}
			}
		case 4: // the label of another vertex
			copy(some.Label, l[r.Intn(len(l))].Label)
		}
		right := text(l) == text(want)
		if !right {
			lies++
		}
		if allGood(t, g, l) != right {
			t.Fatalf("%+v: %v, %v", g, l, right)
		}
	}
	if lies < 3000 {
		t.Error("too few lies:", lies)
	}
}

// P7.3: without the label of a vertex, its view is not good.
func TestMissingLabels(t *testing.T) {
	for _, g := range samples() {
		l, e := forest.Labels(g)
		must(t, e)
		for i, x := range l {
			less := slices.Delete(slices.Clone(l), i, i+1)
			v, e := page.View(g, less, x.ID)
			must(t, e)
			if forest.Good(v) || allGood(t, g, less) {
				t.Fatalf("%+v: %v", g, less)
			}
		}
	}
}

// components returns how many components g has: as many as vertices, less one for each edge that joins two of them.
func components(g api.Graph) int {
	of := map[int]int{}
	for _, v := range g.Vertices {
		of[v.ID] = v.ID
	}
	n := len(of)
	for _, e := range g.Edges {
		a, b := of[e.From], of[e.To]
		if a == b {
			continue
		}
		n--
		for id, c := range of {
			if c == a {
				of[id] = b
			}
		}
	}
	return n
}

// P7.4: Count counts the components, and the edges of the labels are a forest that spans them.
func TestSpanningForest(t *testing.T) {
	for _, g := range append(samples(), small()...) {
		l, e := forest.Labels(g)
		must(t, e)
		sum, edges := 0, map[int]bool{}
		for _, x := range l {
			v, e := page.View(g, l, x.ID)
			must(t, e)
			sum += forest.Count(v)
			if x.Label[2] != -1 {
				edges[x.Label[2]] = true
			}
		}
		tree := g
		tree.Edges = slices.DeleteFunc(slices.Clone(g.Edges), func(e api.Edge) bool { return !edges[e.ID] })
		n := components(g)
		if sum != n || len(edges) != len(g.Vertices)-n || len(tree.Edges) != len(edges) || components(tree) != n {
			t.Fatalf("%+v: %v, %d of %d", g, l, sum, n)
		}
	}
}

// P7.5: Connected is an equivalence, and tree paths are paths, in reverse, too.
func TestEquivalenceAndPaths(t *testing.T) {
	is := func(g api.Graph, a, b api.Vertex) bool {
		ok, e := forest.Connected(g, a.ID, b.ID)
		must(t, e)
		return ok
	}
	for _, g := range append(samples()[:40], small()...) {
		for _, a := range g.Vertices {
			if !is(g, a, a) {
				t.Fatalf("%d in %+v", a.ID, g)
			}
			for _, b := range g.Vertices {
				if is(g, a, b) != is(g, b, a) {
					t.Fatalf("%d, %d in %+v", a.ID, b.ID, g)
				}
				path, e := forest.Path(g, a.ID, b.ID)
				back, f := forest.Path(g, b.ID, a.ID)
				slices.Reverse(back)
				if e != f || !slices.Equal(path, back) {
					t.Fatalf("%d, %d in %+v: %v, %v", a.ID, b.ID, g, path, back)
				}
				at, seen := a.ID, map[int]bool{a.ID: true}
				for _, id := range path {
					e, _ := edgeOf(g, id)
					at = e.From + e.To - at
					if seen[at] {
						t.Fatalf("%d, %d in %+v: %v", a.ID, b.ID, g, path)
					}
					seen[at] = true
				}
				for _, c := range g.Vertices {
					if is(g, a, b) && is(g, b, c) && !is(g, a, c) {
						t.Fatalf("%d, %d, %d in %+v", a.ID, b.ID, c.ID, g)
					}
				}
			}
		}
	}
}

// insert returns g with the edge e.
func insert(g api.Graph, e api.Edge) api.Graph {
	i := 0
	for i < len(g.Edges) && g.Edges[i].ID < e.ID {
		i++
	}
	g.Edges = slices.Insert(slices.Clone(g.Edges), i, e)
	return g
}

// free returns the numbers that no edge of g has.
func free(g api.Graph) []int {
	var l []int
	for id := range 40 {
		if _, ok := edgeOf(g, id); !ok {
			l = append(l, id)
		}
	}
	return l
}

// P7.6: only edges count, and among parallel ones the first; nor do loops.
func TestOnlyEdgesCount(t *testing.T) {
	r := rand.New(rand.NewSource(6))
	parallel := 0
	for range 4000 {
		g := randomGraph(r)
		l, e := forest.Labels(g)
		must(t, e)
		want := text(l)
		h := api.Graph{Vertices: slices.Clone(g.Vertices), Edges: slices.Clone(g.Edges)}
		for i := range h.Vertices {
			h.Vertices[i].Side = r.Intn(4)
		}
		for i, e := range h.Edges {
			if r.Intn(2) == 0 {
				e.From, e.To = e.To, e.From
			}
			h.Edges[i] = api.Edge{ID: e.ID, From: e.From, To: e.To, Directed: r.Intn(2) == 0, Weight: r.Intn(2001) - 1000, Cap: r.Intn(1001)}
		}
		if r.Intn(2) == 0 {
			h.Depots = []int{h.Vertices[r.Intn(len(h.Vertices))].ID}
		}
		for _, id := range free(g) {
			some := g.Vertices[r.Intn(len(g.Vertices))].ID
			loop := api.Edge{ID: id, From: some, To: some}
			if len(g.Edges) > 0 && r.Intn(2) == 0 {
				loop = g.Edges[r.Intn(len(g.Edges))]
				if loop.ID > id {
					continue
				}
				parallel++
				loop.ID = id
			}
			h = insert(h, loop)
		}
		if l, e := forest.Labels(h); e != api.OK || text(l) != want {
			t.Fatalf("%+v and %+v: %v, %s", g, h, l, want)
		}
	}
	if parallel < 4000 {
		t.Error("too few parallel edges:", parallel)
	}
}

// P7.6: an edge that is parallel to one with a greater number takes its place in the labels.
func TestLesserParallelEdge(t *testing.T) {
	g := graphOf([]int{0, 1}, []api.Edge{{ID: 5, From: 0, To: 1}})
	for id, want := range map[int]int{4: 4, 6: 5, 0: 0, 39: 5} {
		l, e := forest.Labels(insert(g, api.Edge{ID: id, From: 1, To: 0}))
		if e != api.OK || l[1].Label[2] != want {
			t.Errorf("%d: %v, %d", id, l, e)
		}
	}
}

// P7.6: an edge that is added joins the components of its ends, and leaves all others.
func TestAddedEdge(t *testing.T) {
	r := rand.New(rand.NewSource(7))
	joined := 0
	for range 1500 {
		g := randomGraph(r)
		ids := free(g)
		if len(ids) == 0 {
			continue
		}
		a, b := g.Vertices[r.Intn(len(g.Vertices))].ID, g.Vertices[r.Intn(len(g.Vertices))].ID
		h := insert(g, api.Edge{ID: ids[r.Intn(len(ids))], From: a, To: b, Directed: true})
		ofA, e := forest.Side(g, a)
		must(t, e)
		ofB, e := forest.Side(g, b)
		must(t, e)
		both := slices.Concat(ofA, ofB)
		slices.Sort(both)
		both = slices.Compact(both)
		if len(both) > len(ofA) {
			joined++
		}
		for _, v := range g.Vertices {
			want, e := forest.Side(g, v.ID)
			must(t, e)
			if slices.Contains(both, v.ID) {
				want = both
			}
			if l, e := forest.Side(h, v.ID); e != api.OK || !slices.Equal(l, want) {
				t.Fatalf("%d in %+v and %+v: %v, %v", v.ID, g, h, l, want)
			}
		}
	}
	if joined < 400 {
		t.Error("too few are joined:", joined)
	}
}
