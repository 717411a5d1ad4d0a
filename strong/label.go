package strong

import (
	"iter"
	"slices"

	"clearway/api"
)

// The numbers of a label, in their order.
const (
	root = iota
	outDepth
	outEdge
	inDepth
	inEdge
	rank
	witness
	numbers
)

// label is what is said of a vertex.
type label [numbers]int

// labels are those of vertices, by their numbers.
type labels [api.MaxVertices]label

// labelsOf returns the labels of all vertices of the valid graph g.
func labelsOf(g api.Graph) labels {
	a := arcs(g.Edges)
	l := rooted(g, a)
	l.order(g, a)
	for _, v := range g.Vertices {
		if l[v.ID][root] == v.ID {
			l.measure(a, v.ID, members(g, l, v.ID))
		}
	}
	for _, v := range g.Vertices {
		l[v.ID] = l.due(a, v.ID)
	}
	return l
}

// rooted returns labels that have the roots of all vertices of the valid graph g, and nothing else as yet. The least vertex of a component is the first one with its set.
func rooted(g api.Graph, a arcs) labels {
	var parts [api.MaxVertices]set
	for _, v := range g.Vertices {
		parts[v.ID] = partOf(a, v.ID)
	}
	var l labels
	for _, v := range g.Vertices {
		l[v.ID][root] = slices.Index(parts[:], parts[v.ID])
	}
	return l
}

// order raises the ranks of components until each is greater than those from which arcs lead to it. That ends, as no walk leaves a component and comes back.
func (l *labels) order(g api.Graph, a arcs) {
	for raised := true; raised; {
		raised = false
		for _, v := range g.Vertices {
			for u := range a.into(v.ID) {
				if l[u][root] == l[v.ID][root] || l[u][rank] < l[v.ID][rank] {
					continue
				}
				for _, w := range members(g, *l, l[v.ID][root]) {
					l[w][rank] = l[u][rank] + 1
				}
				raised = true
			}
		}
	}
}

// measure writes the depths and the witness distances of the component part, whose root is r. No walk between two of its vertices leaves it, so all arcs may be searched.
func (l *labels) measure(a arcs, r int, part []int) {
	var entries []int
	for _, v := range part {
		if l.entered(a, v) {
			entries = append(entries, v)
		}
	}
	after, before, behind := search(a.from, r), search(a.into, r), search(a.from, entries...)
	for _, v := range part {
		l[v][outDepth], l[v][inDepth], l[v][witness] = after[v], before[v], behind[v]
	}
}

// due returns the label of the vertex id that follows from its root and its rank, if these are right, and from the labels of its neighbours.
func (l *labels) due(a arcs, id int) label {
	x := label{root: l[id][root], outEdge: -1, inEdge: -1, rank: l[id][rank]}
	if x[root] != id {
		x[outDepth], x[outEdge] = l.beyond(id, a.into(id), outDepth)
		x[inDepth], x[inEdge] = l.beyond(id, a.from(id), inDepth)
	}
	if !l.entered(a, id) {
		x[witness], _ = l.beyond(id, a.into(id), witness)
	}
	return x
}

// beyond returns 1 more than the least value of a number in the labels of those vertices of near that have the same root as the vertex id, and the least edge by which one of these is reached. If there are none, it is more than any such number can be.
func (l *labels) beyond(id int, near iter.Seq2[int, int], number int) (int, int) {
	least, edge := far, -1
	for u, e := range near {
		n := l[u][number]
		if l[u][root] != l[id][root] || n > least {
			continue
		}
		if n < least || e < edge {
			least, edge = n, e
		}
	}
	return least + 1, edge
}

// entered reports whether the rank of the vertex id needs no witness further away: it is 0, or an arc leads here from another component whose rank is less by 1.
func (l *labels) entered(a arcs, id int) bool {
	if l[id][rank] == 0 {
		return true
	}
	for u := range a.into(id) {
		if l[u][root] != l[id][root] && l[u][rank] == l[id][rank]-1 {
			return true
		}
	}
	return false
}
