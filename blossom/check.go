package blossom

import (
	"slices"

	"clearway/api"
	"clearway/graph"
)

// claim is what a label says of a set in which its vertex is.
type claim struct{ least, size, base, dual int }

// label is what a label says: the edge of the matching at a vertex, or none, its dual, and its sets, lesser ones first.
type label struct {
	edge, dual int
	claims     []claim
}

// Good reports whether the vertex of v can see nothing wrong.
func Good(v api.View) bool {
	own, ok := told(v.Labels, v.Vertex.ID)
	if !ok || !possible(v) {
		return false
	}
	explained := own.edge == none && own.dual == 0
	var mate label
	for _, e := range v.Edges {
		other, ok := told(v.Labels, graph.Other(e, v.Vertex.ID))
		if !ok {
			return false
		}
		price := Price(e)
		if e.From == e.To || price <= 0 {
			continue
		}
		sum, ok := own.sum(other)
		if !ok || sum < 2*price {
			return false
		}
		if e.ID == own.edge {
			explained = sum == 2*price && other.edge == e.ID
			mate = other
		}
	}
	apart := func(c claim) bool { return c.base != v.Vertex.ID && mate.find(c) < 0 }
	return explained && !slices.ContainsFunc(own.claims, apart)
}

// Count returns the weight of the edge of the matching at the vertex of v, if its other end has a greater number.
func Count(v api.View) int {
	l := labelAt(v.Labels, v.Vertex.ID)
	if len(l) == 0 {
		return 0
	}
	i := slices.IndexFunc(v.Edges, func(e api.Edge) bool { return e.ID == l[0] })
	if i < 0 || graph.Other(v.Edges[i], v.Vertex.ID) <= v.Vertex.ID {
		return 0
	}
	return v.Edges[i].Weight
}

// possible reports whether a valid graph could have the vertex and the edges of v.
func possible(v api.View) bool {
	last := none
	for _, e := range v.Edges {
		if !within(e.ID, last+1, api.MaxEdges-1) || !within(e.Weight, -api.MaxWeight, api.MaxWeight) {
			return false
		}
		if !within(e.From, 0, api.MaxVertices-1) || !within(e.To, 0, api.MaxVertices-1) || graph.Other(e, v.Vertex.ID) < 0 {
			return false
		}
		last = e.ID
	}
	return within(v.Vertex.ID, 0, api.MaxVertices-1)
}

// told returns what the label of the vertex id says, if there is one, and its length, its duals and the order of its sets are possible.
func told(l []api.Named, id int) (label, bool) {
	n := labelAt(l, id)
	if len(n)%4 != 2 || len(n) > 2+4*api.MaxOdds || !within(n[1], 0, api.MaxDual) {
		return label{}, false
	}
	x := label{edge: n[0], dual: n[1]}
	for k := 2; k < len(n); k += 4 {
		c := claim{n[k], n[k+1], n[k+2], n[k+3]}
		if !within(c.dual, 1, api.MaxDual) || k > 2 && c.size <= n[k-3] {
			return label{}, false
		}
		x.claims = append(x.claims, c)
	}
	return x, true
}

// sum returns the sum of the duals of two vertices that are joined, and of the sets in which both are, if they agree about these.
func (x label) sum(y label) (int, bool) {
	sum := x.dual + y.dual
	for _, c := range x.claims {
		if i := y.find(c); i >= 0 {
			if y.claims[i] != c {
				return 0, false
			}
			sum += c.dual
		}
	}
	return sum, true
}

// find returns which set of x is the set of c, or -1 if there is none.
func (x label) find(c claim) int {
	return slices.IndexFunc(x.claims, func(d claim) bool { return d.least == c.least && d.size == c.size })
}

// labelAt returns the first label of the vertex id in l.
func labelAt(l []api.Named, id int) []int {
	i := slices.IndexFunc(l, func(x api.Named) bool { return x.ID == id })
	if i < 0 {
		return nil
	}
	return l[i].Label
}
