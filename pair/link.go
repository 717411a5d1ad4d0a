package pair

import (
	"iter"

	"clearway/api"
)

// none is the number that stands for no edge, and for no vertex.
const none = -1

// link is an eligible edge: its ends on both sides, its number and its price, which is positive. A zero link stands for none.
type link struct{ left, right, edge, price int }

// id returns the number of the edge of l, or none.
func (l link) id() int {
	if l.price == 0 {
		return none
	}
	return l.edge
}

// links yields the links of the valid graph g.
func links(g api.Graph) iter.Seq[link] {
	var sides [api.MaxVertices]int
	for _, v := range g.Vertices {
		sides[v.ID] = v.Side
	}
	return func(yield func(link) bool) {
		for _, e := range g.Edges {
			l := link{e.From, e.To, e.ID, Price(e)}
			if sides[e.From] == api.SRight {
				l.left, l.right = e.To, e.From
			}
			eligible := sides[l.left] == api.SLeft && sides[l.right] == api.SRight && e.Weight >= 0
			if eligible && !yield(l) {
				return
			}
		}
	}
}

// best returns the first one of several of which the value is greatest; there is at least one.
func best[T any](several iter.Seq[T], value func(T) int) T {
	var b T
	first := true
	for x := range several {
		if first || value(x) > value(b) {
			b, first = x, false
		}
	}
	return b
}
