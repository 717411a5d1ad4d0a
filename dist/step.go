package dist

import (
	"iter"
	"slices"

	"clearway/api"
	"clearway/graph"
)

// step is a step from a vertex to another one, or to itself: where it begins and ends, and the number and the weight of its edge.
type step struct{ from, to, edge, weight int }

// roads are some edges; those of a graph ascend by their numbers, and so do their steps.
type roads []api.Edge

// into yields the steps to the vertex id from others.
func (r roads) into(id int) iter.Seq[step] {
	return func(yield func(step) bool) {
		for _, e := range r {
			leads := e.To == id || !e.Directed && e.From == id
			if leads && e.From != e.To && !yield(step{graph.Other(e, id), id, e.ID, e.Weight}) {
				return
			}
		}
	}
}

// from yields the steps from the vertex id.
func (r roads) from(id int) iter.Seq[step] {
	return func(yield func(step) bool) {
		for _, e := range r {
			leads := e.From == id || !e.Directed && e.To == id
			if leads && !yield(step{id, graph.Other(e, id), e.ID, e.Weight}) {
				return
			}
		}
	}
}

// flat returns the roads with the weight 0, so that only the numbers of steps count.
func (r roads) flat() roads {
	f := slices.Clone(r)
	for i := range f {
		f[i].Weight = 0
	}
	return f
}

// by returns the one of some steps that has the edge with the number id, and whether there is one.
func by(steps iter.Seq[step], id int) (step, bool) {
	for s := range steps {
		if s.edge == id {
			return s, true
		}
	}
	return step{}, false
}
