package txn_test

import (
	"math/rand"
	"slices"
	"sync"
	"testing"

	"clearway/api"
	"clearway/txn"
)

// anyInt returns a number, mostly a small one.
func anyInt(r *rand.Rand) int {
	switch r.Intn(8) {
	case 0:
		return int(r.Uint64())
	case 1:
		return []int{-1 << 63, 1<<63 - 1, 1 << 62, -1}[r.Intn(4)]
	}
	return r.Intn(6)
}

// anyInts returns a list of numbers.
func anyInts(r *rand.Rand) []int {
	var l []int
	for range r.Intn(5) {
		l = append(l, anyInt(r))
	}
	return l
}

// anyVertex, anyEdge, anyGraph, anyChange, anyLock, anyRequest and anyDesk return what need not be valid.
func anyVertex(r *rand.Rand) api.Vertex { return api.Vertex{ID: anyInt(r), Side: anyInt(r)} }

func anyEdge(r *rand.Rand) api.Edge {
	return api.Edge{ID: anyInt(r), From: anyInt(r), To: anyInt(r), Directed: r.Intn(2) == 0, Weight: anyInt(r), Cap: anyInt(r)}
}

func anyGraph(r *rand.Rand) api.Graph {
	g := api.Graph{Depots: anyInts(r)}
	for range r.Intn(6) {
		g.Vertices = append(g.Vertices, anyVertex(r))
	}
	for range r.Intn(6) {
		g.Edges = append(g.Edges, anyEdge(r))
	}
	return g
}

func anyChange(r *rand.Rand) api.Change {
	return api.Change{Kind: r.Intn(13) - 1, Vertex: anyVertex(r), Edge: anyEdge(r), ID: anyInt(r), N: anyInt(r), Ends: anyInts(r), Depots: anyInts(r)}
}

func anyLock(r *rand.Rand) api.Lock {
	return api.Lock{Kind: r.Intn(4), ID: anyInt(r), Write: r.Intn(3) == 0}
}

func anyRequest(r *rand.Rand) api.Request {
	q := api.Request{Kind: r.Intn(7), Client: r.Intn(6) - 1}
	if r.Intn(2) == 0 {
		q.Change = anyChange(r)
	}
	if r.Intn(2) == 0 {
		q.Lock = anyLock(r)
	}
	return q
}

func anyDesk(r *rand.Rand) api.Desk {
	d := api.Desk{Graph: anyGraph(r), Waiting: anyInts(r)}
	for range r.Intn(6) {
		s := api.Session{Client: anyInt(r), Waits: anyRequest(r), Frames: make([]api.Frame, r.Intn(2))}
		for range r.Intn(4) {
			s.Locks = append(s.Locks, anyLock(r))
		}
		d.Sessions = append(d.Sessions, s)
	}
	return d
}

// R1: calls end without a panic, whatever their arguments are; R2: with an error, the other results are zero.
func TestAnyArguments(t *testing.T) {
	r := rand.New(rand.NewSource(4))
	for range 50000 {
		g := anyGraph(r)
		if r.Intn(2) == 0 {
			g = randomGraph(r)
		}
		var l []api.Request
		for range r.Intn(4) {
			l = append(l, anyRequest(r))
		}
		txn.Locks(g, anyChange(r))
		txn.Waits(anyDesk(r))
		d, out, e := txn.Run(g, l)
		if e != api.OK && (e != api.ErrTxn || text(d) != text(api.Desk{}) || len(out) != 0) || e == api.OK && len(out) < len(l) {
			t.Fatalf("%+v %+v: %+v %+v %v", g, l, d, out, e)
		}
	}
}

// R1: very long lists.
func TestLongLists(t *testing.T) {
	c := api.Change{Kind: api.CSplit}
	for n := range 100000 {
		c.Ends = append(c.Ends, n, -n)
	}
	if l := txn.Locks(api.Graph{}, c); len(l) != 50001 {
		t.Error(len(l))
	}
	if _, _, e := txn.Run(api.Graph{}, make([]api.Request, 100000)); e != api.ErrTxn {
		t.Error(e)
	}
}

// roomy returns a copy of l with spare capacity, which is filled with x; overwrite writes x to all of l and its spare capacity.
func roomy[T any](l []T, x T) []T {
	return append(slices.Clone(l), x, x, x)[:len(l)]
}

func overwrite[T any](l []T, x T) {
	l = l[:cap(l)]
	for i := range l {
		l[i] = x
	}
}

// roomyChange, roomyGraph and roomyRequests return copies whose lists have spare capacity; the functions after them overwrite these, and all lists of a desk.
func roomyChange(c api.Change) api.Change {
	c.Ends, c.Depots = roomy(c.Ends, 77), roomy(c.Depots, 77)
	return c
}

func roomyGraph(g api.Graph) api.Graph {
	return api.Graph{Vertices: roomy(g.Vertices, api.Vertex{ID: 77}), Edges: roomy(g.Edges, api.Edge{ID: 77}), Depots: roomy(g.Depots, 77)}
}

func roomyRequests(l []api.Request) []api.Request {
	l = roomy(l, api.Request{Client: 77})
	for i, r := range l {
		l[i].Change = roomyChange(r.Change)
	}
	return l
}

// entire returns the text of g and l with the spare capacity of their lists.
func entire(g api.Graph, l []api.Request) string {
	s := text(g.Vertices[:cap(g.Vertices)]) + text(g.Edges[:cap(g.Edges)]) + text(g.Depots[:cap(g.Depots)]) + text(l[:cap(l)])
	for _, r := range l {
		s += text(r.Change.Ends[:cap(r.Change.Ends)]) + text(r.Change.Depots[:cap(r.Change.Depots)])
	}
	return s
}

func spoilChange(c api.Change) {
	overwrite(c.Ends, 99)
	overwrite(c.Depots, 99)
}

func spoilChanges(l []api.Change) {
	for _, c := range l {
		spoilChange(c)
	}
	overwrite(l, api.Change{Kind: 99})
}

func spoilGraph(g api.Graph) {
	overwrite(g.Vertices, api.Vertex{ID: 99})
	overwrite(g.Edges, api.Edge{ID: 99})
	overwrite(g.Depots, 99)
}

func spoilSession(s api.Session) {
	for _, f := range s.Frames {
		spoilChanges(f.Changes)
		spoilChanges(f.Undo)
	}
	overwrite(s.Frames, api.Frame{Changes: []api.Change{{Kind: 99}}})
	overwrite(s.Locks, api.Lock{Kind: 99})
	spoilChange(s.Waits.Change)
}

// parts returns for each list of d that is not a part of another one (and for what is within it) its text, and what overwrites it.
func parts(d api.Desk) (texts []func() string, spoils []func()) {
	add := func(s func() string, spoil func()) {
		texts, spoils = append(texts, s), append(spoils, spoil)
	}
	add(func() string { return text(d.Graph) }, func() { spoilGraph(d.Graph) })
	add(func() string { return text(d.Waiting) }, func() { overwrite(d.Waiting, 99) })
	for _, s := range d.Sessions {
		add(func() string { return text(s.Locks) }, func() { overwrite(s.Locks, api.Lock{Kind: 99}) })
		add(func() string { return text(s.Waits) }, func() { spoilChange(s.Waits.Change) })
		for _, f := range s.Frames {
			add(func() string { return text(f.Changes) }, func() { spoilChanges(f.Changes) })
			add(func() string { return text(f.Undo) }, func() { spoilChanges(f.Undo) })
		}
	}
	for _, l := range d.Log {
		add(func() string { return text(l) }, func() { spoilChanges(l) })
	}
	return texts, spoils
}

// R3: arguments and their spare capacity are not changed, and not kept; no two lists of a result share memory.
func TestMemory(t *testing.T) {
	r := rand.New(rand.NewSource(5))
	for range 150 {
		g, l, m := randomHistory(t, r, r.Intn(101))
		want := text(m.desk())
		g, l = roomyGraph(g), roomyRequests(l)
		before := entire(g, l)
		again, _ := run(t, g, l...)
		waiting := txn.Waits(again)
		d, out := run(t, g, l...)
		spoilGraph(again.Graph)
		for _, s := range again.Sessions {
			spoilSession(s)
		}
		for _, c := range again.Log {
			spoilChanges(c)
		}
		if entire(g, l) != before {
			t.Fatal("arguments are changed")
		}
		spoilGraph(g)
		for _, q := range l {
			spoilChange(q.Change)
		}
		overwrite(l, api.Request{Kind: 99})
		if text(d) != want || !slices.Equal(out, m.outcomes) || !slices.Equal(waiting, txn.Waits(d)) {
			t.Fatal("results share memory with arguments")
		}
		apart(t, r, d)
	}
}

// apart checks that no two lists of d share memory: it overwrites them one by one, and looks whether the others stay.
func apart(t *testing.T, r *rand.Rand, d api.Desk) {
	t.Helper()
	texts, spoils := parts(d)
	for _, i := range r.Perm(len(texts)) {
		var before []string
		for _, s := range texts {
			before = append(before, s())
		}
		spoils[i]()
		for j, s := range texts {
			if j != i && s() != before[j] {
				t.Fatal("two lists of a desk share memory")
			}
		}
	}
}

// R3: within a list of changes, too, no two lists share memory.
func TestMemoryWithinChanges(t *testing.T) {
	r := rand.New(rand.NewSource(6))
	for range 200 {
		g, l, _ := randomHistory(t, r, 100)
		d, _ := run(t, g, l...)
		lists := slices.Clone(d.Log)
		for _, s := range d.Sessions {
			lists = append(lists, []api.Change{s.Waits.Change})
			for _, f := range s.Frames {
				lists = append(lists, f.Changes, f.Undo)
			}
		}
		all := slices.Concat(lists...)
		for i, c := range all {
			before := text(all[:i]) + text(all[i+1:])
			overwrite(c.Ends, 1000+i)
			overwrite(c.Depots, 2000+i)
			if text(all[:i])+text(all[i+1:]) != before {
				t.Fatal("two changes share memory")
			}
		}
	}
}

// R3: Locks and Waits leave their arguments as they are.
func TestMemoryOfLocksAndWaits(t *testing.T) {
	r := rand.New(rand.NewSource(7))
	for range 2000 {
		g, c, d := roomyGraph(anyGraph(r)), roomyChange(anyChange(r)), anyDesk(r)
		d.Graph = roomyGraph(d.Graph)
		d.Sessions = roomy(d.Sessions, api.Session{Client: 77})
		for i, s := range d.Sessions {
			d.Sessions[i].Locks = roomy(s.Locks, api.Lock{ID: 77})
		}
		whole := func() string {
			s := entire(g, []api.Request{do(0, c)}) + entire(d.Graph, nil) + text(d.Sessions[:cap(d.Sessions)])
			for _, x := range d.Sessions {
				s += text(x.Locks[:cap(x.Locks)])
			}
			return s
		}
		before := whole()
		overwrite(txn.Locks(g, c), api.Lock{Kind: 99})
		overwrite(txn.Waits(d), [2]int{99, 99})
		if whole() != before {
			t.Fatal("arguments are changed")
		}
	}
}

// R4: calls with the same arguments have the same results, one after the other and at the same time.
func TestCallsAtTheSameTime(t *testing.T) {
	r := rand.New(rand.NewSource(8))
	g, l, m := randomHistory(t, r, 100)
	want, pairs := text(m.desk()), text(pairsOf(m.desk()))
	var all sync.WaitGroup
	for range 8 {
		all.Go(func() {
			for range 50 {
				d, out, e := txn.Run(g, l)
				if text(d) != want || !slices.Equal(out, m.outcomes) || e != api.OK || text(txn.Waits(d)) != pairs {
					t.Error("another result")
				}
			}
		})
	}
	all.Wait()
}
