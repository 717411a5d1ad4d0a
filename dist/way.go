package dist

import (
	"cmp"

	"clearway/api"
)

// none is the number that stands for no edge, and for no anchor.
const none = -1

// way is what counts of the walks to a vertex, if there are any: the least weight, the least number of steps with this weight, and the least edge that is the last one then.
type way struct {
	known               bool
	weight, steps, edge int
}

// ways are those to all vertices, by their numbers.
type ways [api.MaxVertices]way

// begin returns the way to a vertex where walks begin.
func begin() way { return way{known: true, edge: none} }

// then returns the way that goes on by the step s.
func (w way) then(s step) way {
	if !w.known {
		return way{}
	}
	return way{true, w.weight + s.weight, w.steps + 1, s.edge}
}

// or returns the lesser one of w and x, or the one that is known.
func (w way) or(x way) way {
	if !w.known || x.known && cmp.Or(cmp.Compare(x.weight, w.weight), cmp.Compare(x.steps, w.steps), cmp.Compare(x.edge, w.edge)) < 0 {
		return x
	}
	return w
}

// nearest returns the least way to the vertex id by a step from another one, where behind tells the ways to those.
func (r roads) nearest(id int, behind func(id int) way) way {
	var w way
	for s := range r.into(id) {
		w = w.or(behind(s.from).then(s))
	}
	return w
}

// relax returns the least ways from the vertices start to all others, if no closed walk of negative weight can be reached. It goes round the vertices until each of them, one after the other, has kept its way.
func (r roads) relax(start ...int) ways {
	var w ways
	for _, id := range start {
		w[id] = begin()
	}
	kept := 0
relaxing:
	for {
		for id := range w {
			before := w[id]
			w[id] = before.or(r.nearest(id, func(u int) way { return w[u] }))
			if kept++; w[id] != before {
				kept = 0
			}
			if kept == len(w) {
				break relaxing
			}
		}
	}
	return w
}
