package pair

import (
	"iter"
	"slices"

	"clearway/api"
	"clearway/graph"
	"clearway/page"
)

// maxDual is the greatest dual that a label can tell.
const maxDual = 1 << 52

// label is what a label says: the edge of the matching at a vertex, or none, its dual, and its side.
type label struct{ edge, dual, side int }

// Good reports whether the vertex of v can see nothing wrong.
func Good(v api.View) bool {
	unknown := func(id int) bool { _, ok := told(v, id); return !ok }
	own, ok := told(v, v.Vertex.ID)
	if !ok || own.side != sideOf(v.Vertex) || slices.ContainsFunc(page.Neighbours(v.Vertex.ID, v.Edges), unknown) {
		return false
	}
	// An edge at a vertex on no side is never seen, so this also finds out one that is said to be matched.
	explained := own.edge == none && own.dual == 0
	for e, other := range seen(v, own) {
		sum, price := own.dual+other.dual, Price(e)
		if sum < price {
			return false
		}
		if e.ID == own.edge && e.ID == other.edge && sum == price {
			explained = true
		}
	}
	return explained
}

// Count returns the weight of the edge of the matching at the vertex of v, if the label says that the vertex is on the left.
func Count(v api.View) int {
	l := labelAt(v, v.Vertex.ID)
	if len(l) != 3 || l[2] != api.SLeft {
		return 0
	}
	i := slices.IndexFunc(v.Edges, func(e api.Edge) bool { return e.ID == l[0] })
	if i < 0 {
		return 0
	}
	return v.Edges[i].Weight
}

// seen yields the edges of v that can be eligible, with what is said of their other ends, where own is said of the vertex itself.
func seen(v api.View, own label) iter.Seq2[api.Edge, label] {
	return func(yield func(api.Edge, label) bool) {
		for _, e := range v.Edges {
			id := graph.Other(e, v.Vertex.ID)
			if id < 0 || id == v.Vertex.ID || !within(e.ID, 0, api.MaxEdges-1) || !within(e.Weight, 0, api.MaxWeight) {
				continue
			}
			other, _ := told(v, id)
			if own.side+other.side == api.SLeft+api.SRight && !yield(e, other) {
				return
			}
		}
	}
}

// told returns what the label of the vertex id in v says, if its numbers are possible.
func told(v api.View, id int) (label, bool) {
	l := labelAt(v, id)
	if len(l) != 3 {
		return label{}, false
	}
	possible := within(l[0], none, api.MaxEdges-1) && within(l[1], 0, maxDual) && within(l[2], api.SNone, api.SRight)
	return label{l[0], l[1], l[2]}, possible
}

// labelAt returns the first label of the vertex id in v.
func labelAt(v api.View, id int) []int {
	i := slices.IndexFunc(v.Labels, func(x api.Named) bool { return x.ID == id })
	if i < 0 {
		return nil
	}
	return v.Labels[i].Label
}
