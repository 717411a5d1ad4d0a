package dist

import (
	"slices"

	"clearway/api"
	"clearway/graph"
)

// look is what a vertex sees for one depot, which has this index: the edges at it, also as flat ones, and what is said of the vertex itself and of its neighbours.
type look struct {
	id, depot, index int
	edges, flat      roads
	said             map[int][]block
}

// Good reports whether the vertex of v can see nothing wrong.
func Good(v api.View) bool {
	said, ok := read(v)
	if !ok {
		return false
	}
	edges := roads(v.Edges)
	flat := edges.flat()
	checks := [...]func(look) bool{api.DNone: look.unreached, api.DFinite: look.finite, api.DEndless: look.endless}
	for i, depot := range v.Depots {
		l := look{v.Vertex.ID, depot, i, edges, flat, said}
		if !checks[l.own()[stateAt]](l) {
			return false
		}
	}
	return true
}

// Count returns the sum of the distances in the label of the vertex of v.
func Count(v api.View) int {
	l, _ := told(v, v.Vertex.ID)
	sum := 0
	for _, b := range l {
		sum += b.distance().weight
	}
	return sum
}

// at returns the block of the vertex id, which is the vertex itself or a neighbour.
func (l look) at(id int) block { return l.said[id][l.index] }

// own returns the block of the vertex itself.
func (l look) own() block { return l.at(l.id) }

// nearest returns the least way to the vertex from another one, where part says which way a block tells.
func (l look) nearest(r roads, part func(block) way) way {
	return r.nearest(l.id, func(id int) way { return part(l.at(id)) })
}

// unreached reports whether the vertex cannot be reached, as far as it sees.
func (l look) unreached() bool {
	return l.id != l.depot && l.own() == block{} && !l.nearest(l.flat, block.hops).known
}

// finite reports whether the vertex has its distance, as far as it sees.
func (l look) finite() bool {
	due := l.nearest(l.edges, block.distance)
	if l.id == l.depot {
		if due.weight < 0 {
			return false
		}
		due = begin()
	}
	return l.reached() && l.own().distance() == due && l.own().rest() == [3]int{} && !l.sinks() && !l.nearest(l.flat, block.escape).known
}

// endless reports whether walks lead here from an anchor, as far as the vertex sees.
func (l look) endless() bool {
	m := l.own().mark()
	if m.anchor == l.id {
		return l.reached() && l.own().escape() == begin() && l.circles(m)
	}
	due := l.nearest(l.flat, block.escape)
	return l.reached() && l.own().escape() == due && due.steps > 0 && (m == unmarked() || l.circles(m))
}

// reached reports whether the number of steps from the depot is the right one, as far as the vertex sees.
func (l look) reached() bool {
	if l.id == l.depot {
		return l.own().hops() == begin()
	}
	return l.own().hops() == l.nearest(l.flat, block.hops)
}

// sinks reports whether a step from the vertex to itself has a negative weight.
func (l look) sinks() bool {
	return slices.ContainsFunc(l.edges, func(e api.Edge) bool { return e.From == e.To && e.Weight < 0 })
}

// circles reports whether the cycle of the mark m goes on from the vertex: to one where it has gone on by this step, or back to its anchor, with a negative weight.
func (l look) circles(m mark) bool {
	first := m.anchor == l.id
	if !isVertex(m.anchor) || !within(m.position, 0, api.MaxVertices-1) || first != (m.position == 0) || first && m.sum != 0 {
		return false
	}
	s, found := by(l.edges.from(l.id), m.edge)
	if !found || l.at(s.to)[stateAt] != api.DEndless {
		return false
	}
	next, sum := l.at(s.to).mark(), m.sum+s.weight
	if next.anchor != m.anchor {
		return false
	}
	return next.position == m.position+1 && next.sum == sum || s.to == m.anchor && next.position == 0 && sum < 0
}

// read returns what the labels say of the vertex of v and its neighbours, if these and its edges can be those of a graph.
func read(v api.View) (map[int][]block, bool) {
	id := v.Vertex.ID
	if len(v.Depots) > api.MaxDepots || !possible(v.Edges, id) {
		return nil, false
	}
	seen := []int{id}
	for _, e := range v.Edges {
		seen = append(seen, graph.Other(e, id))
	}
	said := map[int][]block{}
	for _, u := range seen {
		l, ok := told(v, u)
		if !ok || slices.ContainsFunc(l, func(b block) bool { return !within(b[stateAt], api.DNone, api.DEndless) }) {
			return nil, false
		}
		said[u] = l
	}
	return said, true
}

// told returns what the first label of the vertex id in v says, a block for each depot, if its numbers can be those of a label.
func told(v api.View, id int) ([]block, bool) {
	i := slices.IndexFunc(v.Labels, func(x api.Named) bool { return x.ID == id })
	if i < 0 || len(v.Labels[i].Label) != len(v.Depots)*api.DBlock {
		return nil, false
	}
	var l []block
	for numbers := range slices.Chunk(v.Labels[i].Label, api.DBlock) {
		if slices.Min(numbers) < -api.MaxDistance || slices.Max(numbers) > api.MaxDistance {
			return nil, false
		}
		l = append(l, block(numbers))
	}
	return l, true
}

// possible reports whether l can be the edges at the vertex id, as far as their numbers, ends and weights say.
func possible(l []api.Edge, id int) bool {
	var known [api.MaxEdges]bool
	for _, e := range l {
		if !within(e.ID, 0, api.MaxEdges-1) || known[e.ID] || !within(e.Weight, -api.MaxWeight, api.MaxWeight) {
			return false
		}
		if e.From != id && e.To != id || !isVertex(e.From) || !isVertex(e.To) {
			return false
		}
		known[e.ID] = true
	}
	return true
}

// isVertex reports whether id is a number that a vertex can have.
func isVertex(id int) bool { return within(id, 0, api.MaxVertices-1) }

// within reports whether n is from least to most.
func within(n, least, most int) bool { return least <= n && n <= most }
