package level

import (
	"slices"

	"clearway/api"
	"clearway/graph"
)

// follower follows a change c of one kind in a forest of the program's own, where g is the graph after c.
type follower func(s *api.Leveled, g api.Graph, c api.Change)

// Follow returns the valid forest s, which belongs to g, after the change c of g.
func Follow(s api.Leveled, g api.Graph, c api.Change) (api.Leveled, api.Errno) {
	after, e := graph.Apply(g, c)
	if e != api.OK || !Valid(s) || !belongs(s, g) {
		return api.Leveled{}, api.ErrLevel
	}
	d := own(s)
	if f, known := followers()[c.Kind]; known {
		f(&d, after, c)
	}
	return d, api.OK
}

// followers returns what follows the changes of each kind that changes forests.
func followers() map[int]follower {
	return map[int]follower{
		api.CAddVertex:  func(s *api.Leveled, _ api.Graph, c api.Change) { join(s, c.Vertex.ID) },
		api.CDropVertex: func(s *api.Leveled, _ api.Graph, c api.Change) { leave(s, c.ID) },
		api.CAddEdge:    func(s *api.Leveled, _ api.Graph, c api.Change) { insert(s, c.Edge.ID, c.Edge.From, c.Edge.To) },
		api.CDropEdge:   func(s *api.Leveled, _ api.Graph, c api.Change) { remove(s, c.ID) },
		api.CSplit: func(s *api.Leveled, g api.Graph, c api.Change) {
			join(s, c.Vertex.ID)
			move(s, g)
		},
		api.CContract: func(s *api.Leveled, g api.Graph, c api.Change) {
			move(s, g)
			leave(s, c.ID)
		},
	}
}

// move deletes those links whose edges in g have other ends than they had, and inserts them with these. All of them are deleted before the first one is inserted, as the document says. (A split and a contraction leave all edges, so that links and edges have the same indices.)
func move(s *api.Leveled, g api.Graph) {
	var moved []api.Edge
	for k, e := range g.Edges {
		if !links(s.Links[k], e) {
			moved = append(moved, e)
		}
	}
	for _, e := range moved {
		remove(s, e.ID)
	}
	for _, e := range moved {
		insert(s, e.ID, e.From, e.To)
	}
}

// belongs reports whether s belongs to the valid graph g.
func belongs(s api.Leveled, g api.Graph) bool {
	is := func(id int, v api.Vertex) bool { return id == v.ID }
	return slices.EqualFunc(s.Vertices, g.Vertices, is) && slices.EqualFunc(s.Links, g.Edges, links)
}

// links reports whether x has the number and the ends of e.
func links(x api.Link, e api.Edge) bool {
	return x.ID == e.ID && x.From == e.From && x.To == e.To
}
