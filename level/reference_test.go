package level_test

import (
	"fmt"
	"maps"
	"math/bits"
	"math/rand"
	"slices"
	"sync"
	"testing"

	"clearway/api"
	"clearway/graph"
	"clearway/level"
)

// text returns x as text, in which nil and empty lists are alike.
func text(x any) string { return fmt.Sprintf("%+v", x) }

// must fails the test if e is an error.
func must(t *testing.T, e api.Errno) {
	t.Helper()
	if e != api.OK {
		t.Fatal("error", e)
	}
}

// set is a set of vertices: the bits that are 1.
type set uint32

func (a set) has(v int) bool { return a>>v&1 == 1 }

// size and least return how many vertices a has, and the least one.
func (a set) size() int  { return bits.OnesCount32(uint32(a)) }
func (a set) least() int { return bits.TrailingZeros32(uint32(a)) }

// model is a dynamic forest in another form than that of the program: the links stand at their numbers, where there are any.
type model struct {
	vertices set
	links    [40]*api.Link
	raised   int
}

// modelOf returns the model of a forest whose lists are in order.
func modelOf(s api.Leveled) *model {
	m := &model{raised: s.Raised}
	for _, v := range s.Vertices {
		m.vertices |= 1 << v
	}
	for _, x := range s.Links {
		m.links[x.ID] = &x
	}
	return m
}

// ids returns the numbers of the links, ascending.
func (m *model) ids() []int {
	var l []int
	for id, x := range m.links {
		if x != nil {
			l = append(l, id)
		}
	}
	return l
}

// leveled returns the forest of which m is the model.
func (m *model) leveled() api.Leveled {
	s := api.Leveled{Raised: m.raised}
	for v := range 24 {
		if m.vertices.has(v) {
			s.Vertices = append(s.Vertices, v)
		}
	}
	for _, id := range m.ids() {
		s.Links = append(s.Links, *m.links[id])
	}
	return s
}

// part returns the part of v at the level i: it grows as long as a tree link leads out of it.
func (m *model) part(v, i int) set {
	p := set(1) << v
	for {
		old := p
		for _, x := range m.links {
			if x != nil && x.Tree && x.Level >= i && (p.has(x.From) || p.has(x.To)) {
				p |= 1<<x.From | 1<<x.To
			}
		}
		if p == old {
			return p
		}
	}
}

// roots returns the least vertices of the parts of all vertices at the level 0.
func (m *model) roots() []int {
	var l []int
	for _, v := range m.leveled().Vertices {
		l = append(l, m.part(v, 0).least())
	}
	return l
}

// insert inserts a link.
func (m *model) insert(id, from, to int) {
	m.links[id] = &api.Link{ID: id, From: from, To: to, Tree: !m.part(from, 0).has(to)}
}

// raise raises the level of a link.
func (m *model) raise(id int) {
	m.links[id].Level++
	m.raised++
}

// remove deletes a link, step by step as the chapter says, and returns the replacement.
func (m *model) remove(id int) int {
	gone := m.links[id]
	m.links[id] = nil
	i := gone.Level
	if !gone.Tree {
		return -1
	}
again:
	a, b := m.part(gone.From, i), m.part(gone.To, i)
	small := a
	if b.size() < a.size() || b.size() == a.size() && b.least() < a.least() {
		small = b
	}
	var trees, others []int
	for _, k := range m.ids() {
		x := m.links[k]
		switch {
		case x.Level != i || x.From == x.To:
		case x.Tree && small.has(x.From) && small.has(x.To):
			trees = append(trees, k)
		case !x.Tree && (small.has(x.From) || small.has(x.To)):
			others = append(others, k)
		}
	}
	for _, k := range trees {
		m.raise(k)
	}
	for _, k := range others {
		x := m.links[k]
		if !small.has(x.From) || !small.has(x.To) {
			x.Tree = true
			return k
		}
		m.raise(k)
	}
	if i > 0 {
		i--
		goto again
	}
	return -1
}

// renew deletes links and inserts them with other ends, given as those of the numbers of links; it returns how many these are.
func (m *model) renew(ends map[int][2]int) int {
	ids := slices.Sorted(maps.Keys(ends))
	for _, id := range ids {
		m.remove(id)
	}
	for _, id := range ids {
		m.insert(id, ends[id][0], ends[id][1])
	}
	return len(ids)
}

// follow follows a change that acts, and returns how many links it inserts.
func (m *model) follow(c api.Change) int {
	ends := map[int][2]int{}
	switch c.Kind {
	case 1:
		m.vertices |= 1 << c.Vertex.ID
	case 2:
		m.vertices &^= 1 << c.ID
	case 3:
		m.insert(c.Edge.ID, c.Edge.From, c.Edge.To)
		return 1
	case 4:
		m.remove(c.ID)
	case 7:
		for _, id := range m.ids() {
			x := m.links[id]
			to := map[int]int{x.From: x.From, x.To: x.To, c.ID: c.N}
			if x.From == c.ID || x.To == c.ID {
				ends[id] = [2]int{to[x.From], to[x.To]}
			}
		}
		n := m.renew(ends)
		m.vertices &^= 1 << c.ID
		return n
	case 8:
		m.vertices |= 1 << c.Vertex.ID
		for _, n := range c.Ends {
			x := m.links[n/2]
			both, known := ends[n/2]
			if !known {
				both = [2]int{x.From, x.To}
			}
			both[n%2] = c.Vertex.ID
			ends[n/2] = both
		}
		return m.renew(ends)
	}
	return 0
}

// ascends reports whether l is strictly ascending, from 0 to most.
func ascends(l []int, most int) bool {
	for i, n := range l {
		if n < 0 || n > most || i > 0 && n <= l[i-1] {
			return false
		}
	}
	return true
}

// inCycle reports whether tree links of m form a cycle: those that lead to a vertex with no other one are taken away, as long as there are any.
func (m *model) inCycle() bool {
	trees := slices.DeleteFunc(m.leveled().Links, func(x api.Link) bool { return !x.Tree })
	for {
		var many [24]int
		for _, x := range trees {
			many[x.From]++
			many[x.To]++
		}
		n := len(trees)
		trees = slices.DeleteFunc(trees, func(x api.Link) bool { return x.From != x.To && (many[x.From] == 1 || many[x.To] == 1) })
		if len(trees) == n {
			return n > 0
		}
	}
}

// isValid reports whether s is valid, condition by condition.
func isValid(s api.Leveled) bool {
	var ids []int
	for _, x := range s.Links {
		ids = append(ids, x.ID)
		if !slices.Contains(s.Vertices, x.From) || !slices.Contains(s.Vertices, x.To) || x.Level < 0 || x.Level > 3 {
			return false
		}
		if x.From == x.To && (x.Tree || x.Level != 0) {
			return false
		}
	}
	if s.Raised < 0 || !ascends(s.Vertices, 23) || !ascends(ids, 39) {
		return false
	}
	m := modelOf(s)
	for _, x := range s.Links {
		if !m.part(x.From, x.Level).has(x.To) {
			return false
		}
	}
	for _, v := range s.Vertices {
		for i, most := range []int{24, 12, 6, 3} {
			if m.part(v, i).size() > most {
				return false
			}
		}
	}
	return !m.inCycle()
}

// isOf reports whether s belongs to g.
func isOf(s api.Leveled, g api.Graph) bool {
	var t api.Leveled
	for _, v := range g.Vertices {
		t.Vertices = append(t.Vertices, v.ID)
	}
	for _, e := range g.Edges {
		t.Links = append(t.Links, api.Link{ID: e.ID, From: e.From, To: e.To})
	}
	bare := slices.Clone(s.Links)
	for i := range bare {
		bare[i].Level, bare[i].Tree = 0, false
	}
	return graph.Valid(g) && text(s.Vertices) == text(t.Vertices) && text(bare) == text(t.Links)
}

// checked returns s, and fails the test if Valid says something else of it than the reference.
func checked(t *testing.T, s api.Leveled) api.Leveled {
	t.Helper()
	if v := level.Valid(s); v != isValid(s) {
		t.Fatalf("%+v: %v", s, v)
	}
	return s
}

// equal reports whether a and b are equal, field by field.
func equal(a, b api.Leveled) bool {
	return slices.Equal(a.Vertices, b.Vertices) && slices.Equal(a.Links, b.Links) && a.Raised == b.Raised
}

// wantForest fails the test if a call with these arguments returned something else than the forest of the model m and no error, or, if m is nil, than nothing and ErrLevel.
func wantForest(t *testing.T, s api.Leveled, e api.Errno, m *model, arguments ...any) {
	t.Helper()
	want, f := api.Leveled{}, api.ErrLevel
	if m != nil {
		want, f = m.leveled(), api.OK
	}
	if !equal(s, want) || e != f {
		t.Fatalf("%+v: %+v, %d, not %+v, %d", arguments, s, e, want, f)
	}
}

// wantInsert compares Insert with the reference, whatever the arguments are; the other functions below do the same. Each returns what the call does.
func wantInsert(t *testing.T, s api.Leveled, id, from, to int) (api.Leveled, api.Errno) {
	t.Helper()
	var m *model
	used := slices.ContainsFunc(s.Links, func(x api.Link) bool { return x.ID == id })
	if isValid(s) && id >= 0 && id < 40 && !used && slices.Contains(s.Vertices, from) && slices.Contains(s.Vertices, to) {
		m = modelOf(s)
		m.insert(id, from, to)
	}
	d, e := level.Insert(s, id, from, to)
	wantForest(t, d, e, m, "Insert", s, id, from, to)
	return d, e
}

func wantDelete(t *testing.T, s api.Leveled, id int) (api.Leveled, int, api.Errno) {
	t.Helper()
	var m *model
	other := 0
	if isValid(s) && slices.ContainsFunc(s.Links, func(x api.Link) bool { return x.ID == id }) {
		m = modelOf(s)
		other = m.remove(id)
	}
	d, n, e := level.Delete(s, id)
	wantForest(t, d, e, m, "Delete", s, id)
	if n != other {
		t.Fatalf("Delete(%+v, %d): %d, not %d", s, id, n, other)
	}
	return d, n, e
}

func wantJoin(t *testing.T, s api.Leveled, v int) (api.Leveled, api.Errno) {
	t.Helper()
	var m *model
	if isValid(s) && v >= 0 && v < 24 && !slices.Contains(s.Vertices, v) {
		m = modelOf(s)
		m.vertices |= 1 << v
	}
	d, e := level.Join(s, v)
	wantForest(t, d, e, m, "Join", s, v)
	return d, e
}

func wantLeave(t *testing.T, s api.Leveled, v int) (api.Leveled, api.Errno) {
	t.Helper()
	var m *model
	if isValid(s) && slices.Contains(s.Vertices, v) && !slices.ContainsFunc(s.Links, func(x api.Link) bool { return x.From == v || x.To == v }) {
		m = modelOf(s)
		m.vertices &^= 1 << v
	}
	d, e := level.Leave(s, v)
	wantForest(t, d, e, m, "Leave", s, v)
	return d, e
}

func wantFollow(t *testing.T, s api.Leveled, g api.Graph, c api.Change) (api.Leveled, api.Errno) {
	t.Helper()
	var m *model
	if _, e := graph.Apply(g, c); e == api.OK && isValid(s) && isOf(s, g) {
		m = modelOf(s)
		m.follow(c)
	}
	d, e := level.Follow(s, g, c)
	wantForest(t, d, e, m, "Follow", s, g, c)
	return d, e
}

func wantConnected(t *testing.T, s api.Leveled, u, v int) {
	t.Helper()
	want, f := false, api.ErrLevel
	if isValid(s) && slices.Contains(s.Vertices, u) && slices.Contains(s.Vertices, v) {
		want, f = modelOf(s).part(u, 0).has(v), api.OK
	}
	if ok, e := level.Connected(s, u, v); ok != want || e != f {
		t.Fatalf("Connected(%+v, %d, %d): %v, %d", s, u, v, ok, e)
	}
}

func wantRoots(t *testing.T, s api.Leveled) {
	t.Helper()
	want, f := []int(nil), api.ErrLevel
	if isValid(s) {
		want, f = modelOf(s).roots(), api.OK
	}
	if l, e := level.Roots(s); !slices.Equal(l, want) || e != f {
		t.Fatalf("Roots(%+v): %v, %d, not %v, %d", s, l, e, want, f)
	}
}

// some returns n different numbers below most, ascending.
func some(r *rand.Rand, n, most int) []int {
	l := r.Perm(most)[:n]
	slices.Sort(l)
	return l
}

// anyOf returns an element of l.
func anyOf[T any](r *rand.Rand, l []T) T { return l[r.Intn(len(l))] }

// forests returns very many valid forests, which are made once, as this takes its time.
var forests = sync.OnceValue(func() []api.Leveled {
	r := rand.New(rand.NewSource(9))
	var l []api.Leveled
	for range 3000 {
		l = append(l, grownForest(r))
	}
	return l
})

// randomForest returns a copy of one of them.
func randomForest(r *rand.Rand) api.Leveled {
	s := anyOf(r, forests())
	s.Vertices, s.Links = slices.Clone(s.Vertices), slices.Clone(s.Links)
	return s
}

// grownForest returns a valid forest of any size: links between vertices are inserted into the model, and levels are raised one by one as long as the forest stays valid, wherever this is possible.
func grownForest(r *rand.Rand) api.Leveled {
	s := api.Leveled{Vertices: some(r, 1+r.Intn(24), 24)}
	m := modelOf(s)
	for _, id := range r.Perm(40)[:r.Intn(41)] {
		m.insert(id, anyOf(r, s.Vertices), anyOf(r, s.Vertices))
	}
	ids := m.ids()
	for range r.Intn(3) * 60 {
		if len(ids) == 0 {
			break
		}
		id := anyOf(r, ids)
		if m.raise(id); !isValid(m.leveled()) {
			m.links[id].Level--
		}
	}
	m.raised = anyOf(r, []int{0, 1, 7, m.raised, 1000})
	return m.leveled()
}

// graphOf returns a graph to which s belongs.
func graphOf(s api.Leveled) api.Graph {
	var g api.Graph
	for _, v := range s.Vertices {
		g.Vertices = append(g.Vertices, api.Vertex{ID: v, Side: v % 4})
	}
	for _, x := range s.Links {
		g.Edges = append(g.Edges, api.Edge{ID: x.ID, From: x.From, To: x.To, Directed: x.ID%2 == 0, Weight: x.ID, Cap: x.ID})
	}
	return g
}

// randomGraph returns a valid graph, with many vertices or with few.
func randomGraph(r *rand.Rand) api.Graph {
	g := graphOf(randomForest(r))
	if r.Intn(2) == 0 {
		g.Depots = []int{anyOf(r, g.Vertices).ID}
	}
	return g
}

// randomChange returns a change of some kind, which mostly acts on g (which has vertices).
func randomChange(r *rand.Rand, g api.Graph) api.Change {
	id, other := anyOf(r, g.Vertices).ID, anyOf(r, g.Vertices).ID
	edge := r.Intn(40)
	if len(g.Edges) > 0 && r.Intn(4) > 0 {
		edge = anyOf(r, g.Edges).ID
	}
	switch k := r.Intn(20); {
	case k < 2:
		return api.Change{Kind: api.CAddVertex, Vertex: api.Vertex{ID: r.Intn(24), Side: r.Intn(4)}}
	case k < 4:
		return api.Change{Kind: api.CDropVertex, ID: id}
	case k < 9:
		return api.Change{Kind: api.CAddEdge, Edge: api.Edge{ID: r.Intn(40), From: id, To: other}}
	case k < 13:
		return api.Change{Kind: api.CDropEdge, ID: edge}
	case k < 14:
		return api.Change{Kind: anyOf(r, []int{api.CWeight, api.CCap}), ID: edge, N: r.Intn(1001)}
	case k < 15:
		return api.Change{Kind: api.CSide, ID: id, N: r.Intn(4)}
	case k < 16:
		return api.Change{Kind: api.CDepots, Depots: some(r, r.Intn(3), 24)}
	case k < 18:
		return api.Change{Kind: api.CContract, ID: id, N: other}
	}
	var ends []int
	for _, e := range g.Edges {
		if e.From == id && r.Intn(2) == 0 {
			ends = append(ends, 2*e.ID)
		}
		if e.To == id && r.Intn(2) == 0 {
			ends = append(ends, 2*e.ID+1)
		}
	}
	return api.Change{Kind: api.CSplit, ID: id, Vertex: api.Vertex{ID: r.Intn(24)}, Ends: ends}
}

// step is a change, the graph before and after it, and the forests that belong to these.
type step struct {
	g, after api.Graph
	s, next  api.Leveled
	c        api.Change
}

// walk goes through histories of changes that act, followed by forests, and calls f for each step. Half of the histories begin with a forest that was made, the others with one of other levels.
func walk(t *testing.T, seed int64, histories, steps int, f func(history int, x step)) {
	t.Helper()
	r := rand.New(rand.NewSource(seed))
	for i := range histories {
		s := randomForest(r)
		g := graphOf(s)
		if i%2 == 0 {
			var e api.Errno
			s, e = level.Make(g)
			must(t, e)
		}
		for range steps {
			c := randomChange(r, g)
			after, e := graph.Apply(g, c)
			if e != api.OK || len(after.Vertices) == 0 {
				continue
			}
			next, e := level.Follow(s, g, c)
			must(t, e)
			f(i, step{g, after, s, next, c})
			g, s = after, next
		}
	}
}
