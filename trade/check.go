package trade

import (
	"slices"

	"clearway/api"
	"clearway/graph"
)

// farthest is the greatest absolute number that a label can have.
const farthest = 24000

// Good reports whether the vertex of v can see nothing wrong.
func Good(v api.View) bool {
	id, labels := v.Vertex.ID, told(v.Labels)
	known := func(u int) bool { l, ok := labels[u]; return ok && l.possible() }
	if !known(id) || !possibleEdges(v.Edges, id) || slices.ContainsFunc(v.Edges, func(e api.Edge) bool { return !known(graph.Other(e, id)) }) {
		return false
	}
	own := labels[id]
	if v.Vertex.Side != api.STrader {
		return own == outside()
	}
	traders := map[int]bool{}
	for u, l := range labels {
		traders[u] = l.round >= 1
	}
	m := marketOf(v.Edges, traders)
	m.labels = labels
	return within(own.round, 1, api.MaxVertices) && m.pleased(id) && m.balanced(id) && m.timely(id)
}

// Count returns 1 if the first label of the vertex of v says that it leaves with an edge, and otherwise 0.
func Count(v api.View) int {
	i := slices.IndexFunc(v.Labels, func(x api.Named) bool { return x.ID == v.Vertex.ID })
	if i < 0 || len(v.Labels[i].Label) != 3 || v.Labels[i].Label[1] < 0 {
		return 0
	}
	return 1
}

// pleased reports whether the edge of the trader id is none, or a wish that leads to a trader that leaves in the same round, and whether all that it prefers to this edge has left before.
func (m *market) pleased(id int) bool {
	own := m.labels[id]
	better, ok := m.better(id, own.edge)
	if !ok || own.edge != none && m.partner(own.edge).round != own.round {
		return false
	}
	return !slices.ContainsFunc(better, func(e int) bool { return m.partner(e).round >= own.round })
}

// balanced reports whether exactly one other trader leaves with what the trader id has, or none if id leaves alone. All wishes of others in the market of a view lead to its vertex.
func (m *market) balanced(id int) bool {
	takers := 0
	for u, w := range m.wishes {
		if u != id && slices.Contains(w, m.labels[u].edge) {
			takers++
		}
	}
	if m.labels[id].edge == none {
		return takers == 0
	}
	return takers == 1
}

// timely reports whether the steps of the trader id are right. They become fewer along its cycle, so somebody there is kept waiting, and the cycle could not have left sooner.
func (m *market) timely(id int) bool {
	own := m.labels[id]
	if own.round == 1 || m.kept(id) {
		return own.steps == 0
	}
	return own.edge != none && own.steps == m.partner(own.edge).steps+1 && own.steps < api.MaxVertices
}

// told returns what is said of each vertex: the first one of its labels that has three numbers.
func told(l []api.Named) map[int]label {
	m := map[int]label{}
	for _, x := range slices.Backward(l) {
		if len(x.Label) == 3 {
			m[x.ID] = label{x.Label[0], x.Label[1], x.Label[2]}
		}
	}
	return m
}

// possible reports whether the numbers of l can be those of a label.
func (l label) possible() bool {
	can := func(n int) bool { return within(n, -farthest, farthest) }
	return can(l.round) && can(l.edge) && can(l.steps)
}

// possibleEdges reports whether l can be the edges at the vertex id, in any order.
func possibleEdges(l []api.Edge, id int) bool {
	var known [api.MaxEdges]bool
	for _, e := range l {
		if !within(e.ID, 0, api.MaxEdges-1) || known[e.ID] || !within(e.Weight, -api.MaxWeight, api.MaxWeight) {
			return false
		}
		if e.From != id && e.To != id || !isVertex(e.From) || !isVertex(e.To) {
			return false
		}
		known[e.ID] = true
	}
	return true
}

// isVertex reports whether id is a number that a vertex can have.
func isVertex(id int) bool { return within(id, 0, api.MaxVertices-1) }

// within reports whether n is from least to most.
func within(n, least, most int) bool { return least <= n && n <= most }
