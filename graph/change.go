package graph

import (
	"cmp"
	"slices"

	"clearway/api"
)

// draft is a valid graph that is being changed, in memory of its own, and what makes the changes of each kind.
type draft struct {
	api.Graph
	acts map[int]act
}

// act makes a change of one kind, and returns what undoes it; or it does nothing, and returns false, because its condition is not true.
type act func(d *draft, c api.Change) (api.Change, bool)

// Apply returns the graph after c has acted on g.
func Apply(g api.Graph, c api.Change) (api.Graph, api.Errno) {
	h, _, e := ApplyAll(g, []api.Change{c})
	return h, e
}

// ApplyAll returns the graph after the changes l have acted on g, one after the other, and how many acted.
func ApplyAll(g api.Graph, l []api.Change) (api.Graph, int, api.Errno) {
	if !Valid(g) {
		return api.Graph{}, 0, api.ErrGraph
	}
	d := draftOf(g)
	for i, c := range l {
		if _, ok := d.do(c); !ok {
			return api.Graph{}, i, api.ErrGraph
		}
	}
	return d.Graph, len(l), api.OK
}

// Invert returns the changes that undo c on g.
func Invert(g api.Graph, c api.Change) ([]api.Change, api.Errno) {
	if !Valid(g) {
		return nil, api.ErrGraph
	}
	undo, ok := draftOf(g).do(c)
	if !ok {
		return nil, api.ErrGraph
	}
	return []api.Change{undo}, api.OK
}

// draftOf returns a draft of the valid graph g.
func draftOf(g api.Graph) *draft {
	own := api.Graph{
		Vertices: slices.Clone(g.Vertices),
		Edges:    slices.Clone(g.Edges),
		Depots:   slices.Clone(g.Depots),
	}
	return &draft{Graph: own, acts: acts()}
}

// acts returns what makes the changes of each kind.
func acts() map[int]act {
	return map[int]act{
		api.CAddVertex:  addVertex,
		api.CDropVertex: dropVertex,
		api.CAddEdge:    addEdge,
		api.CDropEdge:   dropEdge,
		api.CWeight:     setter(-api.MaxWeight, api.MaxWeight, weightOf),
		api.CCap:        setter(0, api.MaxCap, capOf),
		api.CContract:   contract,
		api.CSplit:      split,
		api.CSide:       setter(api.SNone, api.STrader, sideOf),
		api.CDepots:     setDepots,
	}
}

// do makes the change c, and returns what undoes it, and whether c acts at all.
func (d *draft) do(c api.Change) (api.Change, bool) {
	f, known := d.acts[c.Kind]
	if !known || !bare(c) {
		return api.Change{}, false
	}
	return f(d, c)
}

// bare reports whether all fields of c that its kind does not have are zero.
func bare(c api.Change) bool {
	switch c.Kind {
	case api.CAddVertex:
		c.Vertex = api.Vertex{}
	case api.CAddEdge:
		c.Edge = api.Edge{}
	case api.CDropVertex, api.CDropEdge:
		c.ID = 0
	case api.CWeight, api.CCap, api.CContract, api.CSide:
		c.ID, c.N = 0, 0
	case api.CSplit:
		c.ID, c.Vertex, c.Ends = 0, api.Vertex{}, nil
	case api.CDepots:
		c.Depots = nil
	}
	return c.Vertex == api.Vertex{} && c.Edge == api.Edge{} && c.ID == 0 && c.N == 0 && len(c.Ends) == 0 && len(c.Depots) == 0
}

// addVertex makes a CAddVertex.
func addVertex(d *draft, c api.Change) (api.Change, bool) {
	if !d.canAdd(c.Vertex) {
		return api.Change{}, false
	}
	d.insert(c.Vertex)
	return api.Change{Kind: api.CDropVertex, ID: c.Vertex.ID}, true
}

// dropVertex makes a CDropVertex.
func dropVertex(d *draft, c api.Change) (api.Change, bool) {
	if !has(d.Vertices, c.ID) || slices.Contains(d.Depots, c.ID) || len(d.endsAt(c.ID)) > 0 {
		return api.Change{}, false
	}
	return api.Change{Kind: api.CAddVertex, Vertex: d.remove(c.ID)}, true
}

// addEdge makes a CAddEdge.
func addEdge(d *draft, c api.Change) (api.Change, bool) {
	i, found := d.edge(c.Edge.ID)
	if found || !validEdge(c.Edge, d.Vertices) {
		return api.Change{}, false
	}
	d.Edges = slices.Insert(d.Edges, i, c.Edge)
	return api.Change{Kind: api.CDropEdge, ID: c.Edge.ID}, true
}

// dropEdge makes a CDropEdge.
func dropEdge(d *draft, c api.Change) (api.Change, bool) {
	i, found := d.edge(c.ID)
	if !found {
		return api.Change{}, false
	}
	old := d.Edges[i]
	d.Edges = slices.Delete(d.Edges, i, i+1)
	return api.Change{Kind: api.CAddEdge, Edge: old}, true
}

// setter returns what makes the changes of a kind that sets a number, to one that is from least to most. where finds this number of the thing with the ID of the change, or returns nil if there is no such thing.
func setter(least, most int, where func(d *draft, id int) *int) act {
	return func(d *draft, c api.Change) (api.Change, bool) {
		p := where(d, c.ID)
		if p == nil || !within(c.N, least, most) {
			return api.Change{}, false
		}
		old := *p
		*p = c.N
		return api.Change{Kind: c.Kind, ID: c.ID, N: old}, true
	}
}

// weightOf finds the weight of the edge id.
func weightOf(d *draft, id int) *int {
	if i, found := d.edge(id); found {
		return &d.Edges[i].Weight
	}
	return nil
}

// capOf finds the capacity of the edge id.
func capOf(d *draft, id int) *int {
	if i, found := d.edge(id); found {
		return &d.Edges[i].Cap
	}
	return nil
}

// sideOf finds the side of the vertex id.
func sideOf(d *draft, id int) *int {
	if i, found := place(d.Vertices, id); found {
		return &d.Vertices[i].Side
	}
	return nil
}

// contract makes a CContract.
func contract(d *draft, c api.Change) (api.Change, bool) {
	if c.ID == c.N || !has(d.Vertices, c.ID) || !has(d.Vertices, c.N) || slices.Contains(d.Depots, c.ID) {
		return api.Change{}, false
	}
	ends := d.endsAt(c.ID)
	d.move(ends, c.N)
	return api.Change{Kind: api.CSplit, ID: c.N, Vertex: d.remove(c.ID), Ends: ends}, true
}

// split makes a CSplit.
func split(d *draft, c api.Change) (api.Change, bool) {
	if !has(d.Vertices, c.ID) || !d.canAdd(c.Vertex) || !contains(d.endsAt(c.ID), c.Ends) {
		return api.Change{}, false
	}
	d.insert(c.Vertex)
	d.move(c.Ends, c.Vertex.ID)
	return api.Change{Kind: api.CContract, ID: c.Vertex.ID, N: c.ID}, true
}

// setDepots makes a CDepots.
func setDepots(d *draft, c api.Change) (api.Change, bool) {
	if !validDepots(c.Depots, d.Vertices) {
		return api.Change{}, false
	}
	old := d.Depots
	d.Depots = slices.Clone(c.Depots)
	return api.Change{Kind: api.CDepots, Depots: old}, true
}

// canAdd reports whether v is valid, and no vertex has its number.
func (d *draft) canAdd(v api.Vertex) bool {
	return validVertex(v) && !has(d.Vertices, v.ID)
}

// insert adds the vertex v, which canAdd allows.
func (d *draft) insert(v api.Vertex) {
	i, _ := place(d.Vertices, v.ID)
	d.Vertices = slices.Insert(d.Vertices, i, v)
}

// remove removes the vertex id, which is there and at which there is no edge, and returns it.
func (d *draft) remove(id int) api.Vertex {
	i, _ := place(d.Vertices, id)
	old := d.Vertices[i]
	d.Vertices = slices.Delete(d.Vertices, i, i+1)
	return old
}

// edge returns the index of the edge id, or the one where it would be, and whether it is there.
func (d *draft) edge(id int) (int, bool) {
	return slices.BinarySearchFunc(d.Edges, id, func(e api.Edge, id int) int { return cmp.Compare(e.ID, id) })
}

// endsAt returns the ends that are at the vertex id, in ascending order.
func (d *draft) endsAt(id int) []int {
	var l []int
	for _, e := range d.Edges {
		if e.From == id {
			l = append(l, 2*e.ID)
		}
		if e.To == id {
			l = append(l, 2*e.ID+1)
		}
	}
	return l
}

// move moves ends of edges that are there to the vertex id.
func (d *draft) move(ends []int, id int) {
	for _, n := range ends {
		i, _ := d.edge(n / 2)
		if n%2 == 0 {
			d.Edges[i].From = id
		} else {
			d.Edges[i].To = id
		}
	}
}

// contains reports whether the list some is strictly ascending, and each of its elements is in all, which is strictly ascending too.
func contains(all, some []int) bool {
	for _, n := range some {
		i, found := slices.BinarySearch(all, n)
		if !found {
			return false
		}
		all = all[i+1:]
	}
	return true
}
