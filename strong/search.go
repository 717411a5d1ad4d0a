package strong

import (
	"iter"

	"clearway/api"
	"clearway/graph"
)

// far is the distance of vertices that are not reached: others are less far.
const far = api.MaxVertices

// arcs are those of some edges.
type arcs []api.Edge

// from yields the arcs that lead from the vertex id: where each of them ends, and the number of its edge.
func (a arcs) from(id int) iter.Seq2[int, int] {
	return a.at(id, func(e api.Edge) bool { return e.From == id || !e.Directed })
}

// into yields the arcs that lead to the vertex id: where each of them begins, and the number of its edge.
func (a arcs) into(id int) iter.Seq2[int, int] {
	return a.at(id, func(e api.Edge) bool { return e.To == id || !e.Directed })
}

// at yields the other ends and the numbers of the edges at the vertex id that are no loops, and that can be used.
func (a arcs) at(id int, usable func(api.Edge) bool) iter.Seq2[int, int] {
	return func(yield func(int, int) bool) {
		for _, e := range a {
			other := graph.Other(e, id)
			if other >= 0 && other != id && usable(e) && !yield(other, e.ID) {
				return
			}
		}
	}
}

// search returns how far each vertex is from the nearest one of start, where next yields the vertices to which one step leads from a vertex. As all vertices of a distance are in the queue before those behind them, each is met at its least one.
func search(next func(int) iter.Seq2[int, int], start ...int) [api.MaxVertices]int {
	var distance [api.MaxVertices]int
	for id := range distance {
		distance[id] = far
	}
	var queue []int
	meet := func(id, n int) {
		if distance[id] == far {
			distance[id] = n
			queue = append(queue, id)
		}
	}
	for _, id := range start {
		meet(id, 0)
	}
	for ; len(queue) > 0; queue = queue[1:] {
		for id := range next(queue[0]) {
			meet(id, distance[queue[0]]+1)
		}
	}
	return distance
}

// set is a set of vertices: a bit for each number.
type set [api.MaxVertices]bool

// reached returns the vertices to which steps lead from the vertex id, where next yields those of one step.
func reached(next func(int) iter.Seq2[int, int], id int) set {
	var s set
	for v, n := range search(next, id) {
		s[v] = n < far
	}
	return s
}

// partOf returns the strong component of the vertex id: what it reaches, and what reaches it. Vertices of one component have equal sets, and others have different ones.
func partOf(a arcs, id int) set {
	after, before := reached(a.from, id), reached(a.into, id)
	var s set
	for v := range s {
		s[v] = after[v] && before[v]
	}
	return s
}
