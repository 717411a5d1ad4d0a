package strong

import (
	"slices"

	"clearway/api"
	"clearway/page"
)

// Good reports whether the view v is good.
func Good(v api.View) bool {
	id := v.Vertex.ID
	// With another number, a vertex could neither be a root nor have a neighbour, so it is not good.
	if !isVertex(id) || !possibleEdges(v.Edges) {
		return false
	}
	near := page.Neighbours(id, v.Edges)
	l, known := read(v.Labels)
	if !known[id] || slices.ContainsFunc(near, func(u int) bool { return !known[u] }) {
		return false
	}
	return l[id][root] <= id && l.ordered(v.Edges, id, near) && l[id] == l.due(v.Edges, id)
}

// Count returns 1 if the vertex of v is the root of its component, as its label says, and otherwise 0.
func Count(v api.View) int {
	for _, x := range v.Labels {
		if x.ID != v.Vertex.ID {
			continue
		}
		if len(x.Label) > 0 && x.Label[root] == x.ID {
			return 1
		}
		return 0
	}
	return 0
}

// ordered reports whether the rank of the vertex id is that of its neighbours near in the same component, and greater than those from which arcs lead here out of others.
func (l *labels) ordered(a arcs, id int, near []int) bool {
	for _, u := range near {
		if l[u][root] == l[id][root] && l[u][rank] != l[id][rank] {
			return false
		}
	}
	for u := range a.into(id) {
		if l[u][root] != l[id][root] && l[u][rank] >= l[id][rank] {
			return false
		}
	}
	return true
}

// read returns the labels that l tells, and the vertices that have possible ones. It goes from the last one to the first, so that of several labels of a vertex the first one counts, whatever it has.
func read(l []api.Named) (labels, set) {
	var all labels
	var known set
	for _, x := range slices.Backward(l) {
		if !isVertex(x.ID) {
			continue
		}
		known[x.ID] = possible(x.Label)
		if known[x.ID] {
			all[x.ID] = label(x.Label)
		}
	}
	return all, known
}

// possible reports whether l can be the numbers of a label.
func possible(l []int) bool {
	if len(l) != numbers {
		return false
	}
	for i, n := range l {
		least, most := 0, api.MaxVertices-1
		if i == outEdge || i == inEdge {
			least, most = -1, api.MaxEdges-1
		}
		if !within(n, least, most) {
			return false
		}
	}
	return true
}

// possibleEdges reports whether l can be edges of a graph, as far as their numbers and ends say.
func possibleEdges(l []api.Edge) bool {
	return !slices.ContainsFunc(l, func(e api.Edge) bool {
		return !within(e.ID, 0, api.MaxEdges-1) || !isVertex(e.From) || !isVertex(e.To)
	})
}

// isVertex reports whether id is a number that a vertex can have.
func isVertex(id int) bool { return within(id, 0, api.MaxVertices-1) }

// within reports whether n is from least to most.
func within(n, least, most int) bool { return least <= n && n <= most }
