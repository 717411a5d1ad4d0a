package txn_test

import (
	"fmt"
	"math/rand"
	"slices"
	"testing"

	"clearway/api"
	"clearway/graph"
)

// text returns x as text, in which nil and empty lists are alike.
func text(x any) string { return fmt.Sprintf("%+v", x) }

// rights are the locks of a client, or those that a request needs: 1 for a right to read a thing (kind and number), 2 for one to write it.
type rights map[[2]int]int

// add adds the right n to a thing.
func (m rights) add(kind, id, n int) { m[[2]int{kind, id}] = max(m[[2]int{kind, id}], n) }

// locks returns m as a list, in order.
func (m rights) locks() []api.Lock {
	var things [][2]int
	for thing := range m {
		things = append(things, thing)
	}
	slices.SortFunc(things, func(a, b [2]int) int { return slices.Compare(a[:], b[:]) })
	var l []api.Lock
	for _, thing := range things {
		l = append(l, api.Lock{Kind: thing[0], ID: thing[1], Write: m[thing] == 2})
	}
	return l
}

// clash reports whether rights of one client conflict with those of another one.
func clash(a, b rights) bool {
	for thing, n := range a {
		if b[thing] > 0 && n+b[thing] > 2 {
			return true
		}
	}
	return false
}

// wanted is the chapter's table of the locks of a change.
func wanted(g api.Graph, c api.Change) rights {
	m := rights{}
	switch c.Kind {
	case 1:
		m.add(1, c.Vertex.ID, 2)
	case 2:
		m.add(1, c.ID, 2)
		m.add(3, 0, 1)
	case 3:
		m.add(2, c.Edge.ID, 2)
		m.add(1, c.Edge.From, 1)
		m.add(1, c.Edge.To, 1)
	case 4, 5, 6:
		m.add(2, c.ID, 2)
	case 7, 9:
		m.add(1, c.ID, 2)
	case 8:
		m.add(1, c.Vertex.ID, 2)
		m.add(1, c.ID, 1)
	case 10:
		m.add(3, 0, 2)
	}
	if c.Kind == 7 {
		m.add(1, c.N, 1)
		m.add(3, 0, 1)
	}
	for _, e := range g.Edges {
		if c.Kind == 4 && e.ID == c.ID {
			m.add(1, e.From, 1)
			m.add(1, e.To, 1)
		}
		if c.Kind == 7 && (e.From == c.ID || e.To == c.ID) {
			m.add(2, e.ID, 2)
		}
	}
	for _, n := range c.Ends {
		if c.Kind == 8 && n >= 0 {
			m.add(2, (n-n%2)/2, 2)
		}
	}
	for _, id := range c.Depots {
		if c.Kind == 10 {
			m.add(1, id, 1)
		}
	}
	return m
}

// made is a change that was made and not undone: of which client (-1 if it is committed), in which of its levels, and what undoes it.
type made struct {
	client, level int
	change        api.Change
	undo          []api.Change
}

// model is a desk in another form than that of the program: it has no graph but the first one, and all changes that were made and not undone, in order. What is rolled back is struck from these, as if it had never been.
type model struct {
	t        *testing.T
	first    api.Graph
	made     []made
	log      [][]api.Change
	levels   [4]int
	has      [4]rights
	waits    [4]api.Request
	queue    []int
	at       int
	outcomes []api.Outcome
	now      api.Graph // what graph returned last
}

// modelOf returns the model of a desk of g.
func modelOf(t *testing.T, g api.Graph) *model { return &model{t: t, first: g, now: g} }

// renew computes the graph after all changes that were made.
func (m *model) renew() {
	var l []api.Change
	for _, x := range m.made {
		l = append(l, x.change)
	}
	g, n, e := graph.ApplyAll(m.first, l)
	if e != api.OK {
		m.t.Fatalf("of the changes that were made, %d do not act after the others: %v", len(l)-n, l)
	}
	m.now = g
}

// of returns the changes of the level of the client, and what undoes them, the last one first.
func (m *model) of(client, level int) (f api.Frame) {
	for _, x := range m.made {
		if x.client == client && x.level == level {
			f.Changes = append(f.Changes, x.change)
			f.Undo = append(slices.Clone(x.undo), f.Undo...)
		}
	}
	return f
}

// desk returns the desk of which m is the model.
func (m *model) desk() api.Desk {
	d := api.Desk{Graph: m.now, Waiting: m.queue, Log: m.log}
	for client := range 4 {
		if m.levels[client] > 0 {
			s := api.Session{Client: client, Locks: m.has[client].locks(), Waits: m.waits[client]}
			for level := range m.levels[client] {
				s.Frames = append(s.Frames, m.of(client, level+1))
			}
			d.Sessions = append(d.Sessions, s)
		}
	}
	return d
}

// needs returns the rights that a request needs.
func (m *model) needs(r api.Request) rights {
	switch r.Kind {
	case 2:
		return wanted(m.now, r.Change)
	case 3:
		return rights{{r.Lock.Kind, r.Lock.ID}: 1}
	}
	return rights{}
}

// blocked reports whether the client b has a lock that conflicts with what the client a needs for r.
func (m *model) blocked(a, b int, r api.Request) bool {
	return a != b && clash(m.needs(r), m.has[b])
}

// run runs the request r with the index i.
func (m *model) run(i int, r api.Request) {
	m.at = i
	m.do(r)
	for m.next() {
	}
}

// note notes an outcome.
func (m *model) note(client, kind int, read string) {
	m.outcomes = append(m.outcomes, api.Outcome{At: m.at, Client: client, Kind: kind, Read: read})
}

// do does r, or waits with it, or refuses it.
func (m *model) do(r api.Request) {
	c := r.Client
	if m.waits[c].Kind != 0 || m.levels[c] == 0 && r.Kind != 1 {
		m.note(c, 3, "")
		return
	}
	for other := range 4 {
		if m.blocked(c, other, r) {
			m.waits[c] = r
			m.queue = append(m.queue, c)
			m.note(c, 2, "")
			return
		}
	}
	for thing, n := range m.needs(r) {
		m.has[c].add(thing[0], thing[1], n)
	}
	if read, ok := m.act(r); ok {
		m.note(c, 1, read)
	} else {
		m.note(c, 3, "")
	}
}

// act does r, and returns what was read, and whether it is not refused.
func (m *model) act(r api.Request) (string, bool) {
	c := r.Client
	switch r.Kind {
	case 1:
		if m.levels[c] == 3 {
			return "", false
		}
		if m.levels[c] == 0 {
			m.has[c] = rights{}
		}
		m.levels[c]++
	case 2:
		count := 0
		for _, x := range m.made {
			if x.client == c {
				count++
			}
		}
		undo, e := graph.Invert(m.now, r.Change)
		if e != api.OK || count >= 30 {
			return "", false
		}
		m.made = append(m.made, made{c, m.levels[c], r.Change, undo})
		m.renew()
	case 3:
		return m.read(r.Lock), true
	case 4:
		m.commit(c)
	case 5:
		m.strike(c)
	}
	return "", true
}

// read returns what is read of a thing.
func (m *model) read(k api.Lock) string {
	var c api.Change
	for _, v := range m.now.Vertices {
		if k.Kind == 1 && v.ID == k.ID {
			c = api.Change{Kind: 1, Vertex: v}
		}
	}
	for _, e := range m.now.Edges {
		if k.Kind == 2 && e.ID == k.ID {
			c = api.Change{Kind: 3, Edge: e}
		}
	}
	if k.Kind == 3 {
		c = api.Change{Kind: 10, Depots: m.now.Depots}
	}
	if c.Kind == 0 {
		return ""
	}
	s, e := graph.EncodeChange(c)
	if e != api.OK {
		m.t.Fatal(e, c)
	}
	return s
}

// commit gives the last level of the client to the one before, or to the log.
func (m *model) commit(client int) {
	if m.levels[client] == 1 {
		m.log = append(m.log, m.of(client, 1).Changes)
	}
	for i, x := range m.made {
		if x.client == client && x.level == m.levels[client] {
			m.made[i].level--
			if x.level == 1 {
				m.made[i].client = -1
			}
		}
	}
	m.close(client)
}

// close ends the last level of the client, and if it was the only one, releases its locks.
func (m *model) close(client int) {
	m.levels[client]--
	if m.levels[client] == 0 {
		m.has[client] = nil
	}
}

// strike rolls the last level of the client back.
func (m *model) strike(client int) {
	m.made = slices.DeleteFunc(m.made, func(x made) bool { return x.client == client && x.level == m.levels[client] })
	m.renew()
	m.close(client)
}

// leave returns the request with which the client waits, and lets it wait no more.
func (m *model) leave(client int) api.Request {
	r := m.waits[client]
	m.waits[client] = api.Request{}
	m.queue = slices.DeleteFunc(m.queue, func(c int) bool { return c == client })
	return r
}

// next does the request of a client that waits for no one, or rolls a victim back. It reports whether there is one.
func (m *model) next() bool {
	var path [4][4]bool // from client to client, if it waits for that one, or for one that does
	for a := range 4 {
		for b := range 4 {
			path[a][b] = m.waits[a].Kind != 0 && m.blocked(a, b, m.waits[a])
		}
	}
	for _, c := range m.queue {
		if path[c] == [4]bool{} {
			m.do(m.leave(c))
			return true
		}
	}
	for mid := range 4 {
		for a := range 4 {
			for b := range 4 {
				path[a][b] = path[a][b] || path[a][mid] && path[mid][b]
			}
		}
	}
	for c := 3; c >= 0; c-- {
		if path[c][c] {
			m.leave(c)
			for m.levels[c] > 0 {
				m.strike(c)
			}
			m.note(c, 4, "")
			return true
		}
	}
	return false
}

// randomGraph returns a valid graph with a few vertices and edges, most of them with small numbers.
func randomGraph(r *rand.Rand) api.Graph {
	var g api.Graph
	for id := range 7 {
		if r.Intn(3) > 0 || id == 0 {
			g.Vertices = append(g.Vertices, api.Vertex{ID: id, Side: r.Intn(4)})
		}
	}
	if r.Intn(3) == 0 {
		g.Vertices = append(g.Vertices, api.Vertex{ID: 23})
	}
	vertex := func() int { return g.Vertices[r.Intn(len(g.Vertices))].ID }
	for id := range 9 {
		if r.Intn(3) > 0 {
			g.Edges = append(g.Edges, api.Edge{ID: id, From: vertex(), To: vertex(), Directed: r.Intn(2) == 0, Weight: r.Intn(2001) - 1000, Cap: r.Intn(1001)})
		}
	}
	if r.Intn(3) == 0 {
		g.Edges = append(g.Edges, api.Edge{ID: 39, From: vertex(), To: vertex()})
	}
	for _, v := range g.Vertices {
		if r.Intn(4) == 0 && len(g.Depots) < 3 {
			g.Depots = append(g.Depots, v.ID)
		}
	}
	return g
}

// oneOf returns the number of a vertex or an edge, mostly one of those in l.
func oneOf(r *rand.Rand, l []int) int {
	if len(l) > 0 && r.Intn(8) > 0 {
		return l[r.Intn(len(l))]
	}
	return r.Intn(10) - 1
}

// numbers returns the numbers of the vertices of g, and of its edges.
func numbers(g api.Graph) (vertices, edges []int) {
	for _, v := range g.Vertices {
		vertices = append(vertices, v.ID)
	}
	for _, e := range g.Edges {
		edges = append(edges, e.ID)
	}
	return vertices, edges
}

// randomChange returns a change that often acts on g.
func randomChange(r *rand.Rand, g api.Graph) api.Change {
	vertices, edges := numbers(g)
	vertex := func() int { return oneOf(r, vertices) }
	c := api.Change{Kind: 1 + r.Intn(10)}
	switch c.Kind {
	case 1:
		c.Vertex = api.Vertex{ID: r.Intn(9), Side: r.Intn(4)}
	case 2:
		c.ID = vertex()
	case 3:
		c.Edge = api.Edge{ID: r.Intn(12), From: vertex(), To: vertex(), Directed: r.Intn(2) == 0, Weight: r.Intn(2001) - 1000, Cap: r.Intn(1001)}
	case 4:
		c.ID = oneOf(r, edges)
	case 5, 6:
		c.ID, c.N = oneOf(r, edges), r.Intn(1002)
	case 7:
		c.ID, c.N = vertex(), vertex()
	case 8:
		c.ID, c.Vertex.ID = vertex(), r.Intn(9)
		for _, e := range g.Edges {
			if e.From == c.ID && r.Intn(2) == 0 {
				c.Ends = append(c.Ends, 2*e.ID)
			}
			if e.To == c.ID && r.Intn(2) == 0 {
				c.Ends = append(c.Ends, 2*e.ID+1)
			}
		}
	case 9:
		c.ID, c.N = vertex(), r.Intn(5)
	case 10:
		for _, id := range vertices {
			if r.Intn(4) == 0 && len(c.Depots) < 3 {
				c.Depots = append(c.Depots, id)
			}
		}
	}
	return c
}

// randomLock returns what a request may read.
func randomLock(r *rand.Rand, g api.Graph) api.Lock {
	vertices, edges := numbers(g)
	switch r.Intn(5) {
	case 0, 1:
		return api.Lock{Kind: 1, ID: oneOf(r, vertices)}
	case 2, 3:
		return api.Lock{Kind: 2, ID: oneOf(r, edges)}
	}
	return api.Lock{Kind: 3}
}

// randomRequest returns a request that makes sense often, if m is the model of the desk.
func randomRequest(r *rand.Rand, m *model) api.Request {
	q := api.Request{Client: r.Intn(4)}
	if m.waits[q.Client].Kind != 0 && r.Intn(5) > 0 {
		q.Client = r.Intn(4)
	}
	n := r.Intn(20)
	switch {
	case n < 1 || n < 17 && m.levels[q.Client] == 0 || n < 3 && m.levels[q.Client] < 3:
		q.Kind = 1
	case n < 10:
		q.Kind, q.Change = 2, randomChange(r, m.now)
	case n < 16:
		q.Kind, q.Lock = 3, randomLock(r, m.now)
	case n < 18:
		q.Kind = 4
	default:
		q.Kind = 5
	}
	return q
}

// randomHistory returns a graph, n requests, and the model of the desk after them.
func randomHistory(t *testing.T, r *rand.Rand, n int) (api.Graph, []api.Request, *model) {
	g := randomGraph(r)
	m := modelOf(t, g)
	var l []api.Request
	for i := range n {
		q := randomRequest(r, m)
		l = append(l, q)
		m.run(i, q)
	}
	return g, l, m
}
