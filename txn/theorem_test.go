package txn_test

import (
	"math/rand"
	"slices"
	"testing"

	"clearway/api"
	"clearway/graph"
	"clearway/txn"
)

// replay returns the graph to which the changes of the log lead from g.
func replay(t *testing.T, g api.Graph, log [][]api.Change) api.Graph {
	t.Helper()
	for _, l := range log {
		h, _, e := graph.ApplyAll(g, l)
		if e != api.OK {
			t.Fatalf("%+v does not act after the transactions before it", l)
		}
		g = h
	}
	return g
}

// P5.2: if all transactions that have not ended are rolled back, in any order, the graph is that of the log.
func TestGraphIsThatOfTheLog(t *testing.T) {
	r := rand.New(rand.NewSource(11))
	logged := 0
	for range 600 {
		g, l, m := randomHistory(t, r, 70)
		for len(l) < 100 && m.levels != [4]int{} {
			if c := r.Intn(4); m.levels[c] > 0 && m.waits[c].Kind == 0 {
				l = append(l, back(c))
				m.run(len(l)-1, back(c))
			}
		}
		d, _ := run(t, g, l...)
		logged += len(d.Log)
		if len(d.Sessions) != 0 || !graph.Same(d.Graph, replay(t, g, d.Log)) {
			t.Fatalf("%+v %+v: %+v", g, l, d)
		}
	}
	if logged < 1000 {
		t.Error("too few transactions:", logged)
	}
}

// served is a request that was done or refused, not because its client waited, and what came of it.
type served struct {
	request api.Request
	outcome api.Outcome
}

// transactions returns what was served in each transaction that was committed, in the order of the log.
func transactions(l []api.Request, out []api.Outcome) [][]served {
	var all [][]served
	var open [4][]served
	var levels [4]int
	waiting := map[int]int{} // from clients to the indexes of the requests with which they wait
	for _, o := range out {
		c := o.Client
		q := l[o.At]
		since, waits := waiting[c]
		switch {
		case o.Kind == api.OVictim:
			open[c], levels[c] = nil, 0
			delete(waiting, c)
			continue
		case o.Kind == api.OWaits:
			waiting[c] = o.At
			continue
		case waits && q.Client == c && o.At > since: // a request of a client that waits
			continue
		case waits:
			q = l[since]
			delete(waiting, c)
		}
		if levels[c] == 0 && q.Kind != api.RBegin {
			continue
		}
		open[c] = append(open[c], served{q, api.Outcome{Client: c, Kind: o.Kind, Read: o.Read}})
		if o.Kind == api.ODone && q.Kind == api.RBegin {
			levels[c]++
		}
		if o.Kind == api.ODone && (q.Kind == api.RCommit || q.Kind == api.RRollback) {
			levels[c]--
			if levels[c] == 0 {
				if q.Kind == api.RCommit {
					all = append(all, open[c])
				}
				open[c] = nil
			}
		}
	}
	return all
}

// P5.2: a transaction that was committed has read, and was refused, what it would have read and been refused alone, after those that were committed before it.
func TestTransactionsAsIfAlone(t *testing.T) {
	r := rand.New(rand.NewSource(12))
	for range 500 {
		g, l, _ := randomHistory(t, r, 100)
		d, out := run(t, g, l...)
		list := transactions(l, out)
		if len(list) != len(d.Log) {
			t.Fatal(len(list), len(d.Log))
		}
		for i, x := range list {
			var alone []api.Request
			var want []api.Outcome
			for j, s := range x {
				s.outcome.At = j
				alone, want = append(alone, s.request), append(want, s.outcome)
			}
			after := expect(t, g, alone, want...)
			if text(after.Log) != text([][]api.Change{d.Log[i]}) {
				t.Fatal(after.Log, d.Log[i])
			}
			g = after.Graph
		}
	}
}

// P5.3: a level that is rolled back leaves nothing but its locks: the desk is that without the level, and the client has all the locks that it had before and in it.
func TestLevelLeavesNothingButLocks(t *testing.T) {
	r := rand.New(rand.NewSource(13))
	rolled := 0
	for range 1500 {
		g, l, m := randomHistory(t, r, 40)
		c := r.Intn(4)
		if m.levels[c] == 0 || m.levels[c] == 3 || m.waits[c].Kind != 0 {
			continue
		}
		before, _ := run(t, g, l...)
		var locks [][]api.Lock
		add := func(q api.Request) bool {
			l = append(l, q)
			m.run(len(l)-1, q)
			locks = append(locks, m.has[c].locks())
			return m.levels[c] > 0 && m.waits[c].Kind == 0 && len(m.queue) == len(before.Waiting)
		}
		ok := add(begin(c))
		for range r.Intn(8) {
			ok = ok && add(do(c, randomChange(r, m.now)))
			ok = ok && add(api.Request{Kind: api.RRead, Client: c, Lock: randomLock(r, m.now)})
		}
		if !ok || !add(back(c)) {
			continue
		}
		rolled++
		after, _ := run(t, g, l...)
		i := slices.IndexFunc(after.Sessions, func(s api.Session) bool { return s.Client == c })
		if !slices.Equal(after.Sessions[i].Locks, locks[len(locks)-2]) {
			t.Fatal("locks are lost:", after.Sessions[i].Locks)
		}
		after.Sessions[i].Locks = before.Sessions[i].Locks
		if text(after) != text(before) {
			t.Fatalf("%+v\n%+v", before, after)
		}
	}
	if rolled < 100 {
		t.Error("too few levels:", rolled)
	}
}

// P5.3: after a whole transaction is rolled back, or was the victim, the desk is as if it had never begun, if no one else did anything meanwhile.
func TestTransactionLeavesNothing(t *testing.T) {
	r := rand.New(rand.NewSource(14))
	rolled := 0
	for range 2500 {
		g, l, m := randomHistory(t, r, 15)
		c := r.Intn(4)
		if m.levels[c] > 0 {
			continue
		}
		before, n := text(m.desk()), len(m.outcomes)
		add := func(q api.Request) {
			if q.Client = c; m.levels[c] > 0 && m.waits[c].Kind == 0 || q.Kind == api.RBegin {
				l = append(l, q)
				m.run(len(l)-1, q)
			}
		}
		add(begin(c))
		for range 1 + r.Intn(8) {
			if q := randomRequest(r, m); q.Kind != api.RCommit {
				add(q)
			}
		}
		for range 3 {
			add(back(c))
		}
		if m.levels[c] > 0 || slices.ContainsFunc(m.outcomes[n:], func(o api.Outcome) bool { return o.Client != c }) {
			continue
		}
		rolled++
		if after, _ := run(t, g, l...); text(after) != before {
			t.Fatalf("%s\n%+v", before, after)
		}
	}
	if rolled < 100 {
		t.Error("too few transactions:", rolled)
	}
}

// P5.3: of a victim nothing is left: neither a session, nor changes, nor locks; the others have the same desk as without all its changes.
func TestVictimLeavesNothing(t *testing.T) {
	g := api.Graph{Vertices: []api.Vertex{{ID: 0}, {ID: 1}, {ID: 2}}, Edges: []api.Edge{{ID: 0, From: 1, To: 2}, {ID: 1, From: 2, To: 1}}}
	l := []api.Request{begin(0), begin(3), do(0, side(0, 1)), do(3, side(1, 2)), begin(3), do(3, api.Change{Kind: api.CContract, ID: 2, N: 1}), begin(3), do(3, api.Change{Kind: api.CAddVertex, Vertex: api.Vertex{ID: 9}}),
		look(3, api.LVertex, 0), look(0, api.LVertex, 2), look(3, api.LVertex, 1)}
	d, out := run(t, g, l...)
	if out[len(out)-3] != victim(9, 3) || out[len(out)-1] != refused(10, 3) {
		t.Fatal(out)
	}
	want, _ := run(t, g, begin(0), do(0, side(0, 1)), look(0, api.LVertex, 2))
	if text(d) != text(want) {
		t.Errorf("%+v\n%+v", d, want)
	}
}

// P5.4: a client reads what it has written itself, in all levels that it has not rolled back; others cannot read it.
func TestOwnWrites(t *testing.T) {
	r := rand.New(rand.NewSource(15))
	for range 1500 {
		g := randomGraph(r)
		m := modelOf(t, g)
		l := []api.Request{begin(2)}
		m.run(0, l[0])
		for len(l) < 60 && m.levels[2] > 0 {
			q := randomRequest(r, m)
			q.Client = 2
			l = append(l, q)
			m.run(len(l)-1, q)
		}
		if m.levels[2] == 0 {
			continue
		}
		// m.made has the changes that are not rolled back, and m.now the graph after these
		for id := range 10 {
			l = append(l, look(2, api.LVertex, id), look(2, api.LEdge, id))
		}
		l = append(l, look(2, api.LDepots, 0))
		_, out := run(t, g, l...)
		for _, o := range out[len(out)-21:] {
			if k := l[o.At].Lock; o.Kind != api.ODone || o.Read != m.read(k) {
				t.Fatalf("%+v: %q, not %q", k, o.Read, m.read(k))
			}
		}
	}
}

// P5.4: the values are read that were written last, level by level.
func TestOwnWritesLevelByLevel(t *testing.T) {
	l := []api.Request{begin(0), do(0, weight(0, 1)), begin(0), do(0, weight(0, 2)), begin(0), do(0, weight(0, 3)), look(0, api.LEdge, 0), back(0), look(0, api.LEdge, 0), commit(0), look(0, api.LEdge, 0), begin(0), do(0, api.Change{Kind: api.CDropEdge}), look(0, api.LEdge, 0), back(0), look(0, api.LEdge, 0)}
	var want []api.Outcome
	for i := range l {
		want = append(want, done(i, 0))
	}
	want[6], want[8], want[10], want[15] = saw(6, 0, edge(3)), saw(8, 0, edge(2)), saw(10, 0, edge(2)), saw(15, 0, edge(2))
	expect(t, pair(), l, want...)
}

// waitsFor returns for whom each client waits.
func waitsFor(d api.Desk) map[int][]int {
	m := map[int][]int{}
	for _, p := range txn.Waits(d) {
		m[p[0]] = append(m[p[0]], p[1])
	}
	return m
}

// chase returns the greatest number of steps from a client to one for which it waits, and so on, or fails if there is a circle.
func chase(t *testing.T, m map[int][]int, client, steps int) int {
	if steps > 4 {
		t.Fatal("a circle:", m)
	}
	longest := steps
	for _, next := range m[client] {
		longest = max(longest, chase(t, m, next, steps+1))
	}
	return longest
}

// P5.5: after every request no client is in a circle, and every client that waits waits for another one.
func TestNoCircles(t *testing.T) {
	r := rand.New(rand.NewSource(16))
	longest := 0
	for range 100 {
		g, l, _ := randomHistory(t, r, 60)
		for n := range len(l) + 1 {
			d, _ := run(t, g, l[:n]...)
			m := waitsFor(d)
			for _, s := range d.Sessions {
				if (s.Waits.Kind != 0) != slices.Contains(d.Waiting, s.Client) || (s.Waits.Kind != 0) != (len(m[s.Client]) > 0) {
					t.Fatalf("%+v %v", d, m)
				}
				longest = max(longest, chase(t, m, s.Client, 0))
			}
			if len(m) != len(d.Waiting) {
				t.Fatal(m, d.Waiting)
			}
		}
	}
	if longest < 3 {
		t.Error("nobody waits for one who waits for one who waits")
	}
}

// P5.5: if all that do not wait commit, again and again, all transactions end.
func TestAllTransactionsEnd(t *testing.T) {
	r := rand.New(rand.NewSource(17))
	for range 400 {
		g, l, _ := randomHistory(t, r, 60)
		d, _ := run(t, g, l...)
		for rounds := 0; len(d.Sessions) > 0; rounds++ {
			if rounds > 12 {
				t.Fatalf("%+v does not end", d)
			}
			for _, s := range d.Sessions {
				if s.Waits.Kind == 0 {
					l = append(l, commit(s.Client))
				}
			}
			if len(l) > 100 {
				break
			}
			d, _ = run(t, g, l...)
		}
	}
}

// P5.6: no two clients have conflicting locks, after any request, and clients have the locks of all changes that they have made and not undone.
func TestLocksAreHeld(t *testing.T) {
	r := rand.New(rand.NewSource(18))
	for range 100 {
		g := randomGraph(r)
		m := modelOf(t, g)
		var l []api.Request
		for i := range 60 {
			before := m.now
			q := randomRequest(r, m)
			l = append(l, q)
			m.run(i, q)
			d, out := run(t, g, l...)
			noConflicts(t, d)
			for _, s := range d.Sessions {
				holds(t, g, s, m)
			}
			if last := out[len(out)-1]; last == done(i, q.Client) && q.Kind == api.RChange {
				hasAll(t, d, q.Client, txn.Locks(before, q.Change))
			}
		}
	}
}

// noConflicts checks that the locks of the sessions of d are in order, and do not conflict.
func noConflicts(t *testing.T, d api.Desk) {
	t.Helper()
	readers, writers := map[[2]int]int{}, map[[2]int]int{}
	for _, s := range d.Sessions {
		for i, k := range s.Locks {
			thing := [2]int{k.Kind, k.ID}
			readers[thing]++
			if k.Write {
				writers[thing]++
			}
			if i > 0 && slices.Compare([]int{s.Locks[i-1].Kind, s.Locks[i-1].ID}, thing[:]) >= 0 {
				t.Fatal("locks are not ordered:", s.Locks)
			}
		}
	}
	for thing, n := range writers {
		if n > 1 || readers[thing] > 1 {
			t.Fatalf("%v: %d may write, %d may read or write", thing, n, readers[thing])
		}
	}
}

// hasAll checks that the client has the locks l, those to write for those to read too.
func hasAll(t *testing.T, d api.Desk, client int, l []api.Lock) {
	t.Helper()
	i := slices.IndexFunc(d.Sessions, func(s api.Session) bool { return s.Client == client })
	for _, k := range l {
		if !slices.ContainsFunc(d.Sessions[i].Locks, func(h api.Lock) bool { return h.Kind == k.Kind && h.ID == k.ID && (h.Write || !k.Write) }) {
			t.Fatalf("the client %d has not %+v", client, k)
		}
	}
}

// holds checks that the session has the locks of all changes that were made in it, each in the graph in which it was made.
func holds(t *testing.T, g api.Graph, s api.Session, m *model) {
	t.Helper()
	for _, x := range m.made {
		if x.client == s.Client {
			hasAll(t, api.Desk{Sessions: []api.Session{s}}, s.Client, txn.Locks(g, x.change))
		}
		h, e := graph.Apply(g, x.change)
		if e != api.OK {
			t.Fatal(x)
		}
		g = h
	}
}

// parcel is what one client does in TestNobodyWaits: requests about vertices and edges of its own.
func parcel(r *rand.Rand, client int) []api.Request {
	a, b, c := client*5, client*5+1, client*5+2
	e := client * 8
	l := []api.Request{begin(client),
		do(client, api.Change{Kind: api.CAddVertex, Vertex: api.Vertex{ID: a + 3, Side: client}}),
		do(client, side(a, 3)),
		do(client, api.Change{Kind: api.CAddEdge, Edge: api.Edge{ID: e + 2, From: a + 3, To: b}}),
		look(client, api.LVertex, b), look(client, api.LEdge, e),
		do(client, weight(e, client)), do(client, api.Change{Kind: api.CCap, ID: e + 1, N: 7}),
		do(client, api.Change{Kind: api.CDropEdge, ID: e}),
		do(client, api.Change{Kind: api.CSplit, ID: b, Vertex: api.Vertex{ID: a + 4}, Ends: []int{2 * (e + 1)}}),
		do(client, api.Change{Kind: api.CDropEdge, ID: e + 1}),
		begin(client), do(client, side(c, 2)), back(client), look(client, api.LVertex, c), commit(client)}
	if r.Intn(2) == 0 {
		l = slices.Insert(l, len(l)-1, do(client, api.Change{Kind: api.CDropVertex, ID: c})) // reads the depots, as others may
	}
	if r.Intn(2) == 0 {
		l = slices.Insert(l, len(l)-1, do(client, api.Change{Kind: api.CContract, ID: a + 3, N: a}))
	}
	if r.Intn(3) == 0 {
		l[len(l)-1] = back(client)
	}
	return l
}

// P5.7: clients that change and read different vertices and edges do not wait, and the order in which their requests come does not matter.
func TestNobodyWaits(t *testing.T) {
	r := rand.New(rand.NewSource(19))
	var g api.Graph
	for client := range 4 {
		a := client * 5
		g.Vertices = append(g.Vertices, api.Vertex{ID: a}, api.Vertex{ID: a + 1}, api.Vertex{ID: a + 2})
		g.Edges = append(g.Edges, api.Edge{ID: client * 8, From: a, To: a + 1}, api.Edge{ID: client*8 + 1, From: a + 1, To: a})
	}
	g.Depots = []int{0, 5}
	for range 300 {
		parcels := make([][]api.Request, 4)
		for client := range parcels {
			parcels[client] = parcel(r, client)
		}
		inTurn, _ := run(t, g, slices.Concat(parcels...)...)
		var l []api.Request
		for len(slices.Concat(parcels...)) > 0 {
			if c := r.Intn(4); len(parcels[c]) > 0 {
				l = append(l, parcels[c][0])
				parcels[c] = parcels[c][1:]
			}
		}
		d, out := run(t, g, l...)
		for i, o := range out {
			if o.At != i || o.Client != l[i].Client || o.Kind != api.ODone {
				t.Fatalf("%+v: %+v", l[i], o)
			}
		}
		if !graph.Same(d.Graph, inTurn.Graph) {
			t.Fatal("the order matters")
		}
	}
}

// P5.7: random changes of several clients whose locks do not conflict lead to the same graph in every order.
func TestOrderDoesNotMatter(t *testing.T) {
	r := rand.New(rand.NewSource(20))
	for range 300 {
		g := randomGraph(r)
		l := []api.Request{begin(0), begin(1), begin(2), begin(3)}
		d, _ := run(t, g, l...)
		for range 25 {
			q := do(r.Intn(4), randomChange(r, d.Graph))
			after, out := run(t, g, append(slices.Clone(l), q)...)
			if len(out) == len(l)+1 && out[len(l)].Kind == api.ODone {
				d, l = after, append(l, q)
			}
		}
		var turns []api.Request
		for _, client := range r.Perm(4) {
			for _, q := range l {
				if q.Client == client {
					turns = append(turns, q)
				}
			}
		}
		last, out := run(t, g, turns...)
		if !graph.Same(last.Graph, d.Graph) || slices.ContainsFunc(out, func(o api.Outcome) bool { return o.Kind != api.ODone }) {
			t.Fatalf("%+v: %+v, not %+v", l, last.Graph, d.Graph)
		}
	}
}
