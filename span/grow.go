package span

import (
	"slices"

	"clearway/api"
	"clearway/graph"
)

// fragment is a set of vertices, which all have a pointer to it; its root; and the edge that it chooses, or one with the number none.
type fragment struct {
	root   int
	chosen api.Edge
}

// forest is what has grown so far: the fragments of all vertices, the edges that were chosen in the rounds before, and the labels. It also has all edges by their numbers, and these numbers in the order of the edges.
type forest struct {
	of     [api.MaxVertices]*fragment
	tree   api.Graph
	labels [api.MaxVertices][]int
	edges  [api.MaxEdges]api.Edge
	order  []int
}

// grow returns the whole forest of the valid graph g.
func grow(g api.Graph) *forest {
	f := &forest{}
	var open []int
	for _, v := range g.Vertices {
		f.of[v.ID] = &fragment{}
		open = append(open, v.ID)
	}
	for _, e := range g.Edges {
		f.edges[e.ID] = e
		f.order = append(f.order, e.ID)
	}
	slices.SortFunc(f.order, f.compare)
	for len(open) > 0 {
		f.choose(open)
		for _, x := range f.fragments(open) {
			f.record(x)
		}
		open = slices.DeleteFunc(open, f.finished)
		for _, x := range f.fragments(open) {
			f.join(x.chosen)
		}
	}
	return f
}

// compare says how the edges with the numbers a and b compare.
func (f *forest) compare(a, b int) int { return compare(f.edges[a], f.edges[b]) }

// choose lets the fragments of the vertices ids, which ascend, choose their edges: each the first one that leaves it, as the least edges come first. One that none leaves has its least vertex as its root.
func (f *forest) choose(ids []int) {
	for _, id := range slices.Backward(ids) {
		*f.of[id] = fragment{root: id, chosen: api.Edge{ID: none}}
	}
	for _, id := range f.order {
		e := f.edges[id]
		from, to := f.of[e.From], f.of[e.To]
		if from != to {
			from.offer(e, e.From)
			to.offer(e, e.To)
		}
	}
}

// offer lets x choose the edge e, whose end in it is the vertex end, unless it has chosen already.
func (x *fragment) offer(e api.Edge, end int) {
	if x.chosen.ID == none {
		*x = fragment{root: end, chosen: e}
	}
}

// fragments returns those of the vertices ids, each once, where its root is.
func (f *forest) fragments(ids []int) []*fragment {
	var l []*fragment
	for _, id := range ids {
		if f.of[id].root == id {
			l = append(l, f.of[id])
		}
	}
	return l
}

// record writes the blocks of this round for all vertices of x.
func (f *forest) record(x *fragment) {
	f.walk(x.root, func(id, depth int, by api.Edge) {
		b := block{rootAt: x.root, depthAt: depth, edgeAt: by.ID, chosenAt: x.chosen.ID, weightAt: x.chosen.Weight}
		f.labels[id] = append(f.labels[id], b[:]...)
	})
}

// finished reports whether the fragment of the vertex id has not chosen an edge.
func (f *forest) finished(id int) bool { return f.of[id].chosen.ID == none }

// join joins the fragments at the ends of the chosen edge e, unless it did so when the other one of them had chosen e, too.
func (f *forest) join(e api.Edge) {
	from, to := f.of[e.From], f.of[e.To]
	if from == to {
		return
	}
	f.tree.Edges = append(f.tree.Edges, e)
	for id, x := range f.of {
		if x == from {
			f.of[id] = to
		}
	}
}

// walk calls visit for each vertex that the tree connects with the vertex root: with its depth, and the last edge on the path to it (one with the number none at the root). The tree has no cycles, so a walk that does not turn around comes nowhere twice.
func (f *forest) walk(root int, visit func(id, depth int, by api.Edge)) {
	var enter func(id, depth int, by api.Edge)
	enter = func(id, depth int, by api.Edge) {
		visit(id, depth, by)
		for _, e := range graph.At(f.tree, id) {
			if e.ID != by.ID {
				enter(graph.Other(e, id), depth+1, e)
			}
		}
	}
	enter(root, 0, api.Edge{ID: none})
}
