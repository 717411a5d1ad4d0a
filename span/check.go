package span

import (
	"slices"

	"clearway/api"
	"clearway/graph"
)

// place is a vertex with the blocks of its label.
type place struct {
	id     int
	blocks []block
}

// way is an edge that is no loop, as the vertex at one of its ends sees it, and the place at the other end.
type way struct {
	edge api.Edge
	to   place
}

// sight is what the vertex of a view sees: its own place, and its ways.
type sight struct {
	own  place
	ways []way
}

// Good reports whether the view v is good.
func Good(v api.View) bool {
	s, ok := read(v)
	if !ok {
		return false
	}
	last := len(s.own.blocks) - 1
	for i := range last {
		if !s.placed(i) || !s.hangs(i) || !s.chose(i) {
			return false
		}
	}
	return s.placed(last) && s.hangs(last) && s.finished(last)
}

// Count returns the sum of the weights of the edges that the vertex of v chooses. One that its other end chooses, too, counts at the lesser one of both.
func Count(v api.View) int {
	s, ok := read(v)
	if !ok {
		return 0
	}
	sum, rounds := 0, len(s.own.blocks)
	for _, w := range s.ways {
		if s.own.chooses(w.edge.ID, rounds) && (w.to.id > s.own.id || !w.to.chooses(w.edge.ID, rounds)) {
			sum += w.edge.Weight
		}
	}
	return sum
}

// chooses reports whether the vertex chooses the edge with the number id in a round less than before.
func (p place) chooses(id, before int) bool {
	return slices.ContainsFunc(p.blocks[:before], func(b block) bool { return b[chosenAt] == id && b[rootAt] == p.id })
}

// inTree reports whether the edge of w is a tree edge before the round i.
func (s sight) inTree(w way, i int) bool {
	return s.own.chooses(w.edge.ID, i) || w.to.chooses(w.edge.ID, i)
}

// placed reports whether the vertex is the root in the round i, or its edge is a tree edge that leads towards the root. In the round 0, there are no tree edges.
func (s sight) placed(i int) bool {
	b := s.own.blocks[i]
	if b[rootAt] < 0 || b[depthAt] < 0 || (b[depthAt] == 0) != (b[rootAt] == s.own.id) {
		return false
	}
	if b[depthAt] == 0 {
		return b[edgeAt] == none
	}
	return slices.ContainsFunc(s.ways, func(w way) bool {
		return w.edge.ID == b[edgeAt] && s.inTree(w, i) && w.to.blocks[i][depthAt] == b[depthAt]-1
	})
}

// hangs reports whether the tree edges before the round i lead to vertices of the same fragment, which are above or below this one.
func (s sight) hangs(i int) bool {
	b := s.own.blocks[i]
	for _, w := range s.ways {
		if !s.inTree(w, i) {
			continue
		}
		c := w.to.blocks[i]
		above := c[depthAt] == b[depthAt]-1 && b[edgeAt] == w.edge.ID
		below := c[depthAt] == b[depthAt]+1 && c[edgeAt] == w.edge.ID
		if c.shared() != b.shared() || !above && !below {
			return false
		}
	}
	return true
}

// chose reports whether an edge is chosen in the round i: one that is not greater than those that leave the fragment here, and, at the root, one of these.
func (s sight) chose(i int) bool {
	b := s.own.blocks[i]
	choice, found := api.Edge{ID: b[chosenAt], Weight: b[weightAt]}, false
	for _, w := range s.ways {
		if w.to.blocks[i][rootAt] == b[rootAt] {
			continue
		}
		order := compare(choice, w.edge)
		if order > 0 {
			return false
		}
		found = found || order == 0
	}
	return choice.ID >= 0 && (found || b[rootAt] != s.own.id)
}

// finished reports whether the fragment is finished in the round i, as far as the vertex sees.
func (s sight) finished(i int) bool {
	b := s.own.blocks[i]
	return b[chosenAt] == none && b[weightAt] == 0 && b[rootAt] <= s.own.id && !slices.ContainsFunc(s.ways, func(w way) bool {
		return w.to.blocks[i][rootAt] != b[rootAt]
	})
}

// read returns what the vertex of v sees, if its edges and the labels of their ends can be those of a graph.
func read(v api.View) (sight, bool) {
	own, ok := placeOf(v.Vertex.ID, v.Labels)
	if !ok || !possible(v.Edges) {
		return sight{}, false
	}
	s := sight{own: own}
	for _, e := range v.Edges {
		// Other is -1 if the vertex is no end of e, so one look is enough for both ends.
		to, ok := placeOf(graph.Other(e, own.id), v.Labels)
		if !ok || len(to.blocks) != len(own.blocks) {
			return sight{}, false
		}
		if to.id != own.id {
			s.ways = append(s.ways, way{e, to})
		}
	}
	return s, true
}

// placeOf returns the place of the vertex id, as the first one of its labels in l tells it.
func placeOf(id int, l []api.Named) (place, bool) {
	i := slices.IndexFunc(l, func(x api.Named) bool { return x.ID == id })
	if i < 0 || !within(id, 0, api.MaxVertices-1) {
		return place{}, false
	}
	blocks, ok := blocksOf(l[i].Label)
	return place{id, blocks}, ok
}

// possible reports whether l can be edges of a graph, as far as their numbers and weights say.
func possible(l []api.Edge) bool {
	last := -1
	for _, e := range l {
		if e.ID <= last || e.ID >= api.MaxEdges || !within(e.Weight, -api.MaxWeight, api.MaxWeight) {
			return false
		}
		last = e.ID
	}
	return true
}

// within reports whether n is from least to most.
func within(n, least, most int) bool { return least <= n && n <= most }
