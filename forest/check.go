package forest

import (
	"slices"

	"clearway/api"
	"clearway/graph"
)

// Good reports whether the view v is good.
func Good(v api.View) bool {
	n := v.Vertex.ID
	places := read(v.Labels)
	p, known := places[n]
	if !known || !validAt(n, v.Edges) || p.root < 0 || p.root > n || p.depth < 0 {
		return false
	}
	for _, e := range v.Edges {
		q, known := places[graph.Other(e, n)]
		if !known || q.root != p.root || q.depth < p.depth-1 {
			return false
		}
	}
	if p.root == n || p.depth == 0 {
		return p == place{root: n, depth: 0, edge: -1}
	}
	return p.edge >= 0 && p.edge == up(n, v.Edges, places)
}

// Count returns 1 if the label of the vertex of v is that of a root, and otherwise 0.
func Count(v api.View) int {
	if p, known := read(v.Labels)[v.Vertex.ID]; known && p.depth == 0 {
		return 1
	}
	return 0
}

// CheckPath reports whether path is a walk from a to b, which are vertices of the valid graph g.
func CheckPath(g api.Graph, a int, b int, path []int) bool {
	if len(path) > api.MaxEdges || !holds(g, a, b) {
		return false
	}
	at := a
	for _, edge := range path {
		next, found := step(g, at, edge)
		if !found {
			return false
		}
		at = next
	}
	return at == b
}

// CheckSide reports whether side has the vertex a of the valid graph g, but not the vertex b, and no edge leaves it.
func CheckSide(g api.Graph, a int, b int, side []int) bool {
	if !holds(g, a, b) || !holds(g, side...) || !ascending(side) {
		return false
	}
	inside := func(id int) bool { return slices.Contains(side, id) }
	leaves := func(e api.Edge) bool { return inside(e.From) != inside(e.To) }
	return inside(a) && !inside(b) && !slices.ContainsFunc(g.Edges, leaves)
}

// validAt reports whether n is the number of a vertex, and l can be the edges at it.
func validAt(n int, l []api.Edge) bool {
	last := -1
	for _, e := range l {
		// Other is -1 if n is no end of e, so one look is enough for both ends.
		if e.ID <= last || e.ID >= api.MaxEdges || !isVertex(graph.Other(e, n)) || e.Weight < -api.MaxWeight || e.Weight > api.MaxWeight {
			return false
		}
		last = e.ID
	}
	return isVertex(n)
}

// isVertex reports whether id is a number that a vertex can have.
func isVertex(id int) bool { return 0 <= id && id < api.MaxVertices }

// ascending reports whether l is strictly ascending.
func ascending(l []int) bool {
	for i := 1; i < len(l); i++ {
		if l[i] <= l[i-1] {
			return false
		}
	}
	return true
}
