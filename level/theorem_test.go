package level_test

import (
	"math/rand"
	"slices"
	"testing"

	"clearway/api"
	"clearway/forest"
	"clearway/graph"
	"clearway/level"
)

// rootsIn returns the least vertices of the components of g, for each vertex in order.
func rootsIn(t *testing.T, g api.Graph) []int {
	t.Helper()
	labels, e := forest.Labels(g)
	must(t, e)
	var l []int
	for _, x := range labels {
		l = append(l, x.Label[0])
	}
	return l
}

// P8.2: after any history, the parts at the level 0 are the components; they are those of a forest that is made anew.
func TestPartsAreComponents(t *testing.T) {
	walk(t, 21, 200, 80, func(_ int, x step) {
		anew, e := level.Make(x.after)
		must(t, e)
		want := rootsIn(t, x.after)
		if l := rootsOf(t, x.next); !slices.Equal(l, want) || !slices.Equal(rootsOf(t, anew), want) {
			t.Fatalf("%+v: %v, not %v", x.next, l, want)
		}
		for _, u := range x.after.Vertices[:1] {
			for _, v := range x.after.Vertices {
				a, e := level.Connected(x.next, u.ID, v.ID)
				b, f := forest.Connected(x.after, u.ID, v.ID)
				if a != b || e != api.OK || f != api.OK {
					t.Fatalf("%+v: %d and %d: %v", x.next, u.ID, v.ID, a)
				}
			}
		}
	})
}

// P8.2: after a change and what undoes it, the components are those from before.
func TestUndone(t *testing.T) {
	walk(t, 22, 200, 60, func(_ int, x step) {
		undo, e := graph.Invert(x.g, x.c)
		must(t, e)
		g, s := x.after, x.next
		for _, c := range undo {
			s, e = level.Follow(s, g, c)
			must(t, e)
			g, e = graph.Apply(g, c)
			must(t, e)
		}
		if !slices.Equal(rootsOf(t, s), rootsOf(t, x.s)) || !isOf(s, x.g) || !level.Valid(checked(t, s)) {
			t.Fatalf("%+v and back: from %+v to %+v", x.c, x.s, s)
		}
	})
}

// P8.2: whole histories are undone.
func TestHistoriesUndone(t *testing.T) {
	var first, last step
	var undo []api.Change
	history := -1
	back := func() {
		g, s := last.after, last.next
		for _, c := range undo {
			var e api.Errno
			s, e = level.Follow(s, g, c)
			must(t, e)
			g, e = graph.Apply(g, c)
			must(t, e)
		}
		if !slices.Equal(rootsOf(t, s), rootsOf(t, first.s)) || !isOf(s, first.g) || !graph.Same(g, first.g) {
			t.Fatalf("from %+v back to %+v", first.s, s)
		}
	}
	walk(t, 23, 60, 60, func(i int, x step) {
		if i != history {
			if history >= 0 {
				back()
			}
			history, first, undo = i, x, nil
		}
		l, e := graph.Invert(x.g, x.c)
		must(t, e)
		undo, last = append(l, undo...), x
	})
	back()
}

// P8.3: Follow leads from valid forests to valid ones, and the level of a link that stays where it is never falls.
func TestStaysValid(t *testing.T) {
	raised := 0
	walk(t, 24, 300, 80, func(_ int, x step) {
		if !level.Valid(checked(t, x.next)) || x.next.Raised < x.s.Raised {
			t.Fatalf("%+v: from %+v to %+v", x.c, x.s, x.next)
		}
		raised += rising(t, x.s, x.next)
	})
	if raised < 200 {
		t.Error("too few levels are raised:", raised)
	}
}

// rising fails the test if the level of a link of s that has the same ends in d has fallen, and returns by how much levels have risen.
func rising(t *testing.T, s, d api.Leveled) int {
	t.Helper()
	n := 0
	m := modelOf(d)
	for _, x := range s.Links {
		y := m.links[x.ID]
		if y == nil || y.From != x.From || y.To != x.To {
			continue
		}
		if y.Level < x.Level {
			t.Fatalf("the level of %d falls from %+v to %+v", x.ID, s, d)
		}
		n += y.Level - x.Level
	}
	return n
}

// P8.3: so do the other calls; only Delete raises levels, and it counts how often it does.
func TestCallsStayValid(t *testing.T) {
	r := rand.New(rand.NewSource(25))
	for range 1000 {
		s := randomForest(r)
		for _, x := range s.Links {
			d, _, e := level.Delete(s, x.ID)
			must(t, e)
			if !level.Valid(checked(t, d)) || d.Raised != s.Raised+rising(t, s, d) {
				t.Fatalf("from %+v to %+v", s, d)
			}
		}
		for range 20 {
			v := r.Intn(24)
			for _, f := range []func() (api.Leveled, api.Errno){
				func() (api.Leveled, api.Errno) {
					return level.Insert(s, r.Intn(40), anyOf(r, s.Vertices), anyOf(r, s.Vertices))
				},
				func() (api.Leveled, api.Errno) { return level.Join(s, v) },
				func() (api.Leveled, api.Errno) { return level.Leave(s, v) },
			} {
				d, e := f()
				if !level.Valid(d) || e == api.OK && (d.Raised != s.Raised || rising(t, s, d) != 0) {
					t.Fatalf("from %+v to %+v", s, d)
				}
			}
		}
	}
}

// without returns l without id.
func without(l []int, id int) []int {
	return slices.DeleteFunc(slices.Clone(l), func(n int) bool { return n == id })
}

// P8.4: a replacement keeps the components as they are; without one, that of the link falls into two. The tree links are those from before, without the link, and with the replacement.
func TestReplacements(t *testing.T) {
	r := rand.New(rand.NewSource(26))
	replaced, torn := 0, 0
	for range 1000 {
		s := randomForest(r)
		before := rootsOf(t, s)
		for _, x := range s.Links {
			d, other, e := level.Delete(s, x.ID)
			must(t, e)
			g := graphOf(s)
			g.Edges = slices.DeleteFunc(g.Edges, func(e api.Edge) bool { return e.ID == x.ID })
			still, e := forest.Connected(g, x.From, x.To)
			must(t, e)
			after, trees := rootsOf(t, d), without(treesOf(s), x.ID)
			if (other != -1) != (x.Tree && still) {
				t.Fatalf("Delete(%+v, %d): %d", s, x.ID, other)
			}
			if other != -1 {
				replaced++
				trees = append(trees, other)
				slices.Sort(trees)
			}
			if !slices.Equal(treesOf(d), trees) || slices.Equal(before, after) != still {
				t.Fatalf("Delete(%+v, %d): %+v, %d", s, x.ID, d, other)
			}
			if !still {
				torn++
				wantTorn(t, s, x, before, after)
			}
		}
	}
	if replaced < 500 || torn < 500 {
		t.Error("too few:", replaced, torn)
	}
}

// wantTorn fails the test if after are not the roots before, with the component of the link x in two.
func wantTorn(t *testing.T, s api.Leveled, x api.Link, before, after []int) {
	t.Helper()
	both := map[int]bool{}
	old := before[slices.Index(s.Vertices, x.From)]
	for i, root := range after {
		if before[i] == old {
			both[root] = true
		} else if root != before[i] {
			t.Fatalf("without %d, the root of %d in %+v is %d", x.ID, s.Vertices[i], s, root)
		}
	}
	if len(both) != 2 || !both[old] || after[slices.Index(s.Vertices, x.From)] == after[slices.Index(s.Vertices, x.To)] {
		t.Fatalf("without %d, the roots of %+v are %v", x.ID, s, after)
	}
}

// only returns the part of s with this root alone, or, if rest is true, all but that.
func only(t *testing.T, s api.Leveled, root int, rest bool) api.Leveled {
	t.Helper()
	roots := rootsOf(t, s)
	in := func(v int) bool { return (roots[slices.Index(s.Vertices, v)] == root) != rest }
	d := copyOf(s)
	d.Vertices = slices.DeleteFunc(d.Vertices, func(v int) bool { return !in(v) })
	d.Links = slices.DeleteFunc(d.Links, func(x api.Link) bool { return !in(x.From) })
	return d
}

// joint returns the forest of a and b, which have no vertices or links in common.
func joint(a, b api.Leveled) api.Leveled {
	m := modelOf(a)
	n := modelOf(b)
	m.vertices |= n.vertices
	for id, x := range n.links {
		if x != nil {
			m.links[id] = x
		}
	}
	return m.leveled()
}

// P8.4: what happens in one component changes nothing in another one: it is as if this component were alone.
func TestComponentsApart(t *testing.T) {
	r := rand.New(rand.NewSource(27))
	parted := 0
	for range 1000 {
		s := randomForest(r)
		root := anyOf(r, rootsOf(t, s))
		alone, rest := only(t, s, root, false), only(t, s, root, true)
		if len(rest.Links) > 0 {
			parted++
		}
		for _, x := range alone.Links {
			d, other, e := level.Delete(s, x.ID)
			one, same, f := level.Delete(alone, x.ID)
			if e != api.OK || f != api.OK || other != same || !level.Same(d, joint(one, rest)) {
				t.Fatalf("Delete(%+v, %d): %+v, %d; alone: %+v, %d", s, x.ID, d, other, one, same)
			}
		}
		for range 10 {
			id, from, to := r.Intn(40), anyOf(r, alone.Vertices), anyOf(r, alone.Vertices)
			d, e := level.Insert(s, id, from, to)
			one, f := level.Insert(alone, id, from, to)
			if e == api.OK && (f != api.OK || !level.Same(d, joint(one, rest))) {
				t.Fatalf("Insert(%+v, %d, %d, %d): %+v; alone: %+v", s, id, from, to, d, one)
			}
		}
	}
	if parted < 300 {
		t.Error("too few have several components with links:", parted)
	}
}

// sumOf returns the sum of the levels of s.
func sumOf(s api.Leveled) int {
	n := 0
	for _, i := range levelsOf(s) {
		n += i
	}
	return n
}

// P8.5: the sum of the levels is at most Raised, and Raised at most three times the number of links that were inserted: over histories of changes.
func TestCostsOfHistories(t *testing.T) {
	history, inserted := -1, 0
	walk(t, 28, 200, 100, func(i int, x step) {
		if i%2 != 0 {
			return // not from Make on
		}
		if i != history {
			history, inserted = i, len(x.s.Links)
		}
		inserted += modelOf(x.s).follow(x.c)
		if sumOf(x.next) > x.next.Raised || x.next.Raised > 3*inserted {
			t.Fatalf("%+v, and %d inserted", x.next, inserted)
		}
	})
}

// costliest returns that tree link of s whose deletion raises most levels.
func costliest(t *testing.T, s api.Leveled) int {
	t.Helper()
	best, most := -1, -1
	for _, id := range treesOf(s) {
		d, _, e := level.Delete(s, id)
		must(t, e)
		if d.Raised > most {
			best, most = id, d.Raised
		}
	}
	return best
}

// P8.5: the same over histories in which links are inserted, and those tree links are deleted that raise most levels.
func TestCostsOfDeletions(t *testing.T) {
	r := rand.New(rand.NewSource(29))
	most, deepest := 0, 0
	for range 20 {
		n := 6 + r.Intn(19)
		s, inserted := made(t, n), 0
		for range 200 {
			id := r.Intn(40)
			d, e := level.Insert(s, id, r.Intn(n), r.Intn(n))
			if e == api.OK {
				inserted++
			} else {
				d, _, e = level.Delete(s, costliest(t, s))
				must(t, e)
			}
			s = d
			if sumOf(s) > s.Raised || s.Raised > 3*inserted || !level.Valid(s) {
				t.Fatalf("%+v, and %d inserted", s, inserted)
			}
			most = max(most, s.Raised)
			deepest = max(deepest, slices.Max(append(levelsOf(s), 0)))
		}
	}
	if most < 100 || deepest < 2 {
		t.Error("too little is raised:", most, deepest)
	}
}

// P8.5: a row of 24 vertices is halved three times, and its first links reach the greatest level; then nothing raises them any more.
func TestGreatestLevel(t *testing.T) {
	var l [][2]int
	for v := range 23 {
		l = append(l, [2]int{v, v + 1})
	}
	s := made(t, 24, append(l, [2]int{11, 12}, [2]int{5, 6}, [2]int{2, 3})...)
	for _, c := range []struct {
		id, other, raised int
		levels            []int // of the first links
	}{
		{11, 23, 11, []int{1, 1, 1, 1, 1, 1, 1, 1, 1, 1, 1, 0, 0}},
		{5, 24, 16, []int{2, 2, 2, 2, 2, 1, 1, 1, 1, 1, 0, 0}},
		{2, 25, 18, []int{3, 3, 2, 2, 1, 1, 1, 1, 1, 0, 0}},
		{0, -1, 18, []int{3, 2, 2, 1, 1, 1, 1, 1, 0, 0}},
		{1, -1, 18, []int{2, 2, 1, 1, 1, 1, 1, 0, 0}},
	} {
		d, other, e := wantDelete(t, s, c.id)
		if e != api.OK || other != c.other || d.Raised != c.raised || !slices.Equal(levelsOf(d)[:len(c.levels)], c.levels) || !level.Valid(checked(t, d)) {
			t.Fatalf("Delete(%+v, %d): %+v, %d, %d", s, c.id, d, other, e)
		}
		s = d
	}
}

// P8.6: deleting a link that is no tree link changes nothing else.
func TestDeleteNoTreeLink(t *testing.T) {
	r := rand.New(rand.NewSource(30))
	deleted := 0
	for range 1000 {
		s := randomForest(r)
		for k, x := range s.Links {
			if x.Tree {
				continue
			}
			deleted++
			want := copyOf(s)
			want.Links = slices.Delete(want.Links, k, k+1)
			if d, other, e := level.Delete(s, x.ID); e != api.OK || other != -1 || !level.Same(d, want) {
				t.Fatalf("Delete(%+v, %d): %+v, %d", s, x.ID, d, other)
			}
		}
	}
	if deleted < 1000 {
		t.Error("too few:", deleted)
	}
}

// P8.6: a link that is inserted between connected vertices, and deleted at once, leaves the forest as it was.
func TestInsertAndDelete(t *testing.T) {
	r := rand.New(rand.NewSource(31))
	between := 0
	for range 1000 {
		s := randomForest(r)
		for range 20 {
			id, from, to := r.Intn(40), anyOf(r, s.Vertices), anyOf(r, s.Vertices)
			connected, e := level.Connected(s, from, to)
			must(t, e)
			d, e := level.Insert(s, id, from, to)
			if e != api.OK || !connected {
				continue
			}
			between++
			if back, other, e := level.Delete(d, id); e != api.OK || other != -1 || !level.Same(back, s) {
				t.Fatalf("%+v, with %d, and without it: %+v, %d", s, id, back, other)
			}
		}
	}
	if between < 1000 {
		t.Error("too few:", between)
	}
}
