package txn_test

import (
	"math/rand"
	"slices"
	"testing"

	"clearway/api"
	"clearway/graph"
	"clearway/txn"
)

// pair returns the graph of the chapter's examples: the vertices 0 and 1, and the edge 0 between them with the weight 5.
func pair() api.Graph {
	return api.Graph{Vertices: []api.Vertex{{ID: 0}, {ID: 1}}, Edges: []api.Edge{{ID: 0, From: 0, To: 1, Weight: 5}}}
}

// begin, commit, back, do and look return requests of a client.
func begin(client int) api.Request  { return api.Request{Kind: api.RBegin, Client: client} }
func commit(client int) api.Request { return api.Request{Kind: api.RCommit, Client: client} }
func back(client int) api.Request   { return api.Request{Kind: api.RRollback, Client: client} }
func do(client int, c api.Change) api.Request {
	return api.Request{Kind: api.RChange, Client: client, Change: c}
}
func look(client, kind, id int) api.Request {
	return api.Request{Kind: api.RRead, Client: client, Lock: api.Lock{Kind: kind, ID: id}}
}

// weight and side return changes.
func weight(id, n int) api.Change { return api.Change{Kind: api.CWeight, ID: id, N: n} }
func side(id, n int) api.Change   { return api.Change{Kind: api.CSide, ID: id, N: n} }

// run returns the desk and the outcomes of l.
func run(t *testing.T, g api.Graph, l ...api.Request) (api.Desk, []api.Outcome) {
	t.Helper()
	d, out, e := txn.Run(g, l)
	if e != api.OK {
		t.Fatal(e, l)
	}
	return d, out
}

// expect checks that l has these outcomes, and returns the desk afterwards.
func expect(t *testing.T, g api.Graph, l []api.Request, want ...api.Outcome) api.Desk {
	t.Helper()
	d, out := run(t, g, l...)
	if !slices.Equal(out, want) {
		t.Fatalf("got  %+v\nwant %+v", out, want)
	}
	return d
}

// done, waits, refused and victim return outcomes.
func done(at, client int) api.Outcome {
	return api.Outcome{At: at, Client: client, Kind: api.ODone}
}
func saw(at, client int, c api.Change) api.Outcome {
	s, _ := graph.EncodeChange(c)
	return api.Outcome{At: at, Client: client, Kind: api.ODone, Read: s}
}
func waits(at, client int) api.Outcome {
	return api.Outcome{At: at, Client: client, Kind: api.OWaits}
}
func refused(at, client int) api.Outcome {
	return api.Outcome{At: at, Client: client, Kind: api.ORefused}
}
func victim(at, client int) api.Outcome {
	return api.Outcome{At: at, Client: client, Kind: api.OVictim}
}

// edge returns the CAddEdge of the edge of pair, with another weight.
func edge(n int) api.Change {
	return api.Change{Kind: api.CAddEdge, Edge: api.Edge{ID: 0, From: 0, To: 1, Weight: n}}
}

// P5.1: the chapter's examples.
func TestExamples(t *testing.T) {
	l := []api.Request{begin(0), begin(1), do(0, weight(0, 7)), look(1, api.LEdge, 0)}
	first := []api.Outcome{done(0, 0), done(1, 1), done(2, 0), waits(3, 1)}
	expect(t, pair(), append(l, look(0, api.LEdge, 0), commit(0)), append(first, saw(4, 0, edge(7)), done(5, 0), saw(5, 1, edge(7)))...)
	expect(t, pair(), append(l, back(0)), append(first, done(4, 0), saw(4, 1, edge(5)))...)
	l = []api.Request{begin(0), begin(1), do(0, side(0, 1)), do(1, side(1, 1)), look(0, api.LVertex, 1), look(1, api.LVertex, 0)}
	d := expect(t, pair(), l, done(0, 0), done(1, 1), done(2, 0), done(3, 1), waits(4, 0), waits(5, 1), victim(5, 1), saw(5, 0, api.Change{Kind: api.CAddVertex, Vertex: api.Vertex{ID: 1}}))
	want := pair()
	want.Vertices[0].Side = 1
	if !graph.Same(d.Graph, want) || len(d.Sessions) != 1 || len(d.Log) != 0 {
		t.Error(d)
	}
}

// P5.1: what Run returns is what the model does.
func TestRun(t *testing.T) {
	r := rand.New(rand.NewSource(1))
	kinds := map[int]int{}
	for range 2000 {
		g, l, m := randomHistory(t, r, r.Intn(101))
		d, out := run(t, g, l...)
		if !slices.Equal(out, m.outcomes) {
			t.Fatalf("%+v %+v:\ngot  %+v\nwant %+v", g, l, out, m.outcomes)
		}
		if got, want := text(d), text(m.desk()); got != want {
			t.Fatalf("%+v %+v:\ngot  %s\nwant %s", g, l, got, want)
		}
		for _, o := range out {
			kinds[o.Kind]++
		}
	}
	for kind := api.ODone; kind <= api.OVictim; kind++ {
		if kinds[kind] < 500 {
			t.Error("the histories are too tame:", kinds)
		}
	}
}

// P5.1: the locks of the changes of all kinds, in graphs and with changes of all sorts.
func TestLocks(t *testing.T) {
	r := rand.New(rand.NewSource(2))
	for range 100000 {
		g := randomGraph(r)
		c := randomChange(r, g)
		if r.Intn(2) == 0 {
			c = anyChange(r)
		}
		if r.Intn(4) == 0 {
			g = anyGraph(r)
		}
		if got, want := txn.Locks(g, c), wanted(g, c).locks(); !slices.Equal(got, want) {
			t.Fatalf("%+v in %+v:\ngot  %+v\nwant %+v", c, g, got, want)
		}
	}
}

// P5.1: locks of changes that do not act: what is not there, a vertex and itself, loops, ends that are negative, great, or not in order.
func TestLocksOfOddChanges(t *testing.T) {
	g := api.Graph{Vertices: []api.Vertex{{ID: 4}}, Edges: []api.Edge{{ID: 6, From: 4, To: 4}}}
	most := int(^uint(0) >> 1)
	for i, x := range []struct {
		c    api.Change
		want []api.Lock
	}{
		{api.Change{Kind: api.CDropEdge, ID: 6}, []api.Lock{{Kind: 1, ID: 4}, {Kind: 2, ID: 6, Write: true}}},
		{api.Change{Kind: api.CDropEdge, ID: 7}, []api.Lock{{Kind: 2, ID: 7, Write: true}}},
		{api.Change{Kind: api.CContract, ID: 4, N: 4}, []api.Lock{{Kind: 1, ID: 4, Write: true}, {Kind: 2, ID: 6, Write: true}, {Kind: 3}}},
		{api.Change{Kind: api.CContract, ID: -4, N: 9}, []api.Lock{{Kind: 1, ID: -4, Write: true}, {Kind: 1, ID: 9}, {Kind: 3}}},
		{api.Change{Kind: api.CSplit, ID: 4, Vertex: api.Vertex{ID: 4}, Ends: []int{-1, -2, 3, 1, 0, most}}, []api.Lock{{Kind: 1, ID: 4, Write: true}, {Kind: 2, Write: true}, {Kind: 2, ID: 1, Write: true}, {Kind: 2, ID: most / 2, Write: true}}},
		{api.Change{Kind: api.CAddEdge, Edge: api.Edge{ID: -3, From: 8, To: 8}}, []api.Lock{{Kind: 1, ID: 8}, {Kind: 2, ID: -3, Write: true}}},
		{api.Change{Kind: api.CDepots, Depots: []int{9, -9, 9, 1, 2}}, []api.Lock{{Kind: 1, ID: -9}, {Kind: 1, ID: 1}, {Kind: 1, ID: 2}, {Kind: 1, ID: 9}, {Kind: 3, Write: true}}},
		{api.Change{Kind: api.CSide, ID: 5, Ends: []int{2}, Depots: []int{3}, N: 7, Edge: api.Edge{ID: 1}, Vertex: api.Vertex{ID: 1}}, []api.Lock{{Kind: 1, ID: 5, Write: true}}},
		{api.Change{Kind: -1, ID: 5}, nil},
		{api.Change{Kind: 11, ID: 5, Ends: []int{2}}, nil},
	} {
		if got := txn.Locks(g, x.c); !slices.Equal(got, x.want) {
			t.Errorf("%d: got %+v, want %+v", i, got, x.want)
		}
	}
}

// P5.1: requests that are not formed, and those that are just formed.
func TestFormed(t *testing.T) {
	lock := api.Lock{Kind: api.LVertex, ID: 1}
	c := weight(0, 1)
	for i, x := range []struct {
		r  api.Request
		ok bool
	}{
		{begin(0), true}, {begin(3), true}, {begin(-1), false}, {begin(4), false},
		{api.Request{Kind: 0}, false}, {api.Request{Kind: 6}, false}, {api.Request{Kind: -1}, false},
		{api.Request{Kind: api.RBegin, Lock: lock}, false}, {api.Request{Kind: api.RBegin, Lock: api.Lock{Write: true}}, false}, {api.Request{Kind: api.RBegin, Change: c}, false},
		{api.Request{Kind: api.RCommit, Lock: lock}, false}, {api.Request{Kind: api.RCommit, Change: c}, false}, {commit(2), true}, {commit(4), false},
		{api.Request{Kind: api.RRollback, Lock: lock}, false}, {api.Request{Kind: api.RRollback, Change: c}, false}, {back(1), true}, {back(-1), false},
		{api.Request{Kind: api.RBegin, Change: api.Change{Ends: []int{}, Depots: []int{}}}, true},
		{api.Request{Kind: api.RRead, Lock: lock}, true}, {api.Request{Kind: api.RRead, Lock: lock, Change: api.Change{Ends: []int{}}}, true},
		{look(0, api.LVertex, -7), true}, {look(0, api.LEdge, 1<<40), true}, {look(0, api.LDepots, 0), true}, {look(0, api.LDepots, 1), false},
		{look(0, 0, 0), false}, {look(0, 4, 0), false}, {look(4, api.LEdge, 0), false},
		{api.Request{Kind: api.RRead, Lock: api.Lock{Kind: api.LVertex, Write: true}}, false},
		{api.Request{Kind: api.RRead, Lock: api.Lock{Kind: api.LEdge, Write: true}}, false},
		{api.Request{Kind: api.RRead, Lock: api.Lock{Kind: api.LDepots, Write: true}}, false},
		{do(0, c), true}, {do(4, c), false}, {do(0, api.Change{}), true}, {do(0, api.Change{Kind: 77, N: -5}), true},
		{api.Request{Kind: api.RChange, Change: c, Lock: lock}, false}, {api.Request{Kind: api.RChange, Lock: api.Lock{Write: true}}, false},
		{do(0, api.Change{Ends: make([]int, 80), Depots: make([]int, 3)}), true}, {do(0, api.Change{Ends: make([]int, 81)}), false}, {do(0, api.Change{Depots: make([]int, 4)}), false},
	} {
		l := []api.Request{begin(1), x.r, begin(1)}
		if d, out, e := txn.Run(pair(), l); (e == api.OK) != x.ok || !x.ok && (e != api.ErrTxn || text(d) != text(api.Desk{}) || len(out) != 0) || x.ok && len(out) != 3 {
			t.Errorf("%d: %v %+v", i, e, out)
		}
	}
	for i, c := range []api.Change{{Kind: 1}, {Vertex: api.Vertex{Side: 1}}, {Edge: api.Edge{Directed: true}}, {ID: 1}, {N: 1}, {Ends: []int{0}}, {Depots: []int{0}}} {
		for _, q := range []api.Request{begin(0), look(0, api.LVertex, 0), commit(0), back(0)} {
			q.Change = c
			if _, _, e := txn.Run(pair(), []api.Request{q}); e != api.ErrTxn {
				t.Errorf("%d: %v", i, e)
			}
		}
	}
}

// P5.1: too many requests, and graphs that are not valid.
func TestArguments(t *testing.T) {
	l := slices.Repeat([]api.Request{begin(0)}, 101)
	if d, out := run(t, pair(), l[:100]...); len(out) != 100 || len(d.Sessions[0].Frames) != 3 {
		t.Error(out)
	}
	if d, out, e := txn.Run(pair(), l); e != api.ErrTxn || text(d) != text(api.Desk{}) || len(out) != 0 {
		t.Error(e)
	}
	for i, g := range []api.Graph{{Depots: []int{0}}, {Vertices: []api.Vertex{{ID: 24}}}, {Edges: []api.Edge{{}}}} {
		if d, out, e := txn.Run(g, l[:1]); e != api.ErrTxn || text(d) != text(api.Desk{}) || len(out) != 0 {
			t.Error(i, e)
		}
	}
	if d, out := run(t, pair()); !graph.Same(d.Graph, pair()) || len(out) != 0 || len(d.Sessions)+len(d.Waiting)+len(d.Log) != 0 {
		t.Error(d, out)
	}
	if d, out := run(t, api.Graph{}, begin(2), commit(2)); len(out) != 2 || len(d.Log) != 1 || len(d.Log[0]) != 0 {
		t.Error("a transaction without changes has an entry in the log:", d, out)
	}
}

// P5.1: a session has at most 3 levels and 30 changes in all of them; what is refused keeps its locks.
func TestLimits(t *testing.T) {
	l := []api.Request{begin(0)}
	want := []api.Outcome{done(0, 0)}
	add := func(r api.Request, o func(at, client int) api.Outcome) {
		want = append(want, o(len(l), 0))
		l = append(l, r)
	}
	for n := range 30 {
		if n == 7 || n == 20 {
			add(begin(0), done)
		}
		add(do(0, weight(0, n)), done)
	}
	add(begin(0), refused)
	add(do(0, side(1, 2)), refused)
	add(commit(0), done)
	add(do(0, side(1, 2)), refused)
	add(back(0), done)
	add(do(0, side(1, 2)), done)
	d := expect(t, pair(), l, want...)
	s := d.Sessions[0]
	if len(s.Frames) != 1 || len(s.Frames[0].Changes) != 8 || d.Graph.Edges[0].Weight != 6 || d.Graph.Vertices[1].Side != 2 {
		t.Error(d)
	}
	d, _ = run(t, pair(), begin(0), do(0, weight(0, 2000)), do(0, side(9, 1)))
	if !slices.Equal(d.Sessions[0].Locks, []api.Lock{{Kind: 1, ID: 9, Write: true}, {Kind: 2, Write: true}}) || len(d.Sessions[0].Frames[0].Changes) != 0 {
		t.Error(d)
	}
}

// P5.1: a client at its limit still waits for the locks of a change before it is refused.
func TestWaitingThenRefused(t *testing.T) {
	l := []api.Request{begin(0), begin(1), look(1, api.LVertex, 1), do(0, side(1, 9)), commit(0), look(0, api.LEdge, 0), commit(1)}
	d := expect(t, pair(), l, done(0, 0), done(1, 1), saw(2, 1, api.Change{Kind: 1, Vertex: api.Vertex{ID: 1}}), waits(3, 0), refused(4, 0), refused(5, 0), done(6, 1), refused(6, 0))
	if s := d.Sessions; len(s) != 1 || s[0].Client != 0 || s[0].Waits.Kind != 0 || len(d.Waiting) != 0 || !slices.Equal(s[0].Locks, []api.Lock{{Kind: 1, ID: 1, Write: true}}) {
		t.Error(d)
	}
}

// P5.1: of several clients that can go on, the one that began to wait first goes on first, even if the others then cannot.
func TestFirstComeFirstServed(t *testing.T) {
	l := []api.Request{begin(0), begin(1), begin(2), begin(3), do(1, side(1, 1)), do(3, side(1, 3)), do(0, side(1, 2)), look(2, api.LVertex, 1), commit(1)}
	d := expect(t, pair(), l, done(0, 0), done(1, 1), done(2, 2), done(3, 3), done(4, 1), waits(5, 3), waits(6, 0), waits(7, 2), done(8, 1), done(8, 3))
	if !slices.Equal(d.Waiting, []int{0, 2}) || d.Graph.Vertices[1].Side != 3 {
		t.Error(d)
	}
	if got := txn.Waits(d); !slices.Equal(got, [][2]int{{0, 3}, {2, 3}}) {
		t.Error(got)
	}
}

// P5.1: the victim is the greatest client in a circle, not one that only waits for such a one; all its levels are rolled back.
func TestVictim(t *testing.T) {
	g := api.Graph{Vertices: []api.Vertex{{ID: 0}, {ID: 1}, {ID: 2}, {ID: 3}}}
	l := []api.Request{begin(0), begin(1), begin(2), begin(3), do(0, side(0, 1)), do(1, side(1, 1)), begin(1), do(1, side(2, 1)), begin(1),
		look(3, api.LVertex, 0), look(2, api.LVertex, 1), look(0, api.LVertex, 2), look(1, api.LVertex, 0)}
	want := []api.Outcome{}
	for i := range 9 {
		want = append(want, done(i, l[i].Client))
	}
	read := func(at, client, id int) api.Outcome {
		return saw(at, client, api.Change{Kind: 1, Vertex: api.Vertex{ID: id}})
	}
	d := expect(t, g, l, append(want, waits(9, 3), waits(10, 2), waits(11, 0), waits(12, 1), victim(12, 1), read(12, 2, 1), read(12, 0, 2))...)
	if d.Graph.Vertices[1].Side != 0 || d.Graph.Vertices[2].Side != 0 || d.Graph.Vertices[0].Side != 1 || !slices.Equal(d.Waiting, []int{3}) || len(d.Sessions) != 3 {
		t.Error(d)
	}
}

// P5.1: Waits of desks as Run returns them, and of all others.
func TestWaits(t *testing.T) {
	r := rand.New(rand.NewSource(3))
	found := 0
	for range 20000 {
		d := anyDesk(r)
		if r.Intn(4) == 0 {
			_, _, m := randomHistory(t, r, r.Intn(60))
			d = m.desk()
		}
		got, want := txn.Waits(d), pairsOf(d)
		if !slices.Equal(got, want) {
			t.Fatalf("%+v:\ngot  %v\nwant %v", d, got, want)
		}
		found += len(got)
	}
	if found < 5000 {
		t.Error("too few pairs:", found)
	}
}

// pairsOf returns the pairs of Waits of d, by the chapter's words.
func pairsOf(d api.Desk) [][2]int {
	var l [][2]int
	for _, a := range d.Sessions {
		need := rights{}
		switch a.Waits.Kind {
		case 2:
			need = wanted(d.Graph, a.Waits.Change)
		case 3:
			need.add(a.Waits.Lock.Kind, a.Waits.Lock.ID, 1)
			if a.Waits.Lock.Write {
				need.add(a.Waits.Lock.Kind, a.Waits.Lock.ID, 2)
			}
		}
		for _, b := range d.Sessions {
			has := rights{}
			for _, k := range b.Locks {
				has.add(k.Kind, k.ID, 1)
				if k.Write {
					has.add(k.Kind, k.ID, 2)
				}
			}
			if p := [2]int{a.Client, b.Client}; a.Client != b.Client && clash(need, has) && !slices.Contains(l, p) {
				l = append(l, p)
			}
		}
	}
	slices.SortFunc(l, func(a, b [2]int) int { return slices.Compare(a[:], b[:]) })
	return l
}
