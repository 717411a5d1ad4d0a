package dist

import (
	"slices"

	"clearway/api"
)

// mark is what a vertex says of the cycle that it is on: the anchor, the number of steps from there, their weight, and the edge of the next one.
type mark struct{ anchor, position, sum, edge int }

// marks are those of all vertices, by their numbers.
type marks [api.MaxVertices]mark

// unmarked returns the mark of a vertex that is on no cycle of an anchor.
func unmarked() mark { return mark{anchor: none, edge: none} }

// far stands for no walk. Whatever a walk weighs, it stays greater than MaxDistance if that is added.
const far = 10 * api.MaxDistance

// table says of the walks with some number of steps how little one from a vertex to another one weighs at least, with a number that is greater than MaxDistance if there is none.
type table [api.MaxVertices][api.MaxVertices]int

// tableOf returns a table of no walks, but for those from a vertex to itself, which have the weight own.
func tableOf(own int) *table {
	t := &table{}
	for from := range t {
		for to := range t {
			t[from][to] = far
		}
		t[from][from] = own
	}
	return t
}

// before returns the table of the walks that begin with one step more than those of t.
func (r roads) before(t *table) *table {
	longer := tableOf(far)
	for id := range t {
		for s := range r.from(id) {
			for to, n := range t[s.to] {
				longer[id][to] = min(longer[id][to], s.weight+n)
			}
		}
	}
	return longer
}

// walks returns the tables of all numbers of steps from 0 to that of vertices.
func (r roads) walks() []*table {
	t := tableOf(0)
	l := []*table{t}
	for range api.MaxVertices {
		t = r.before(t)
		l = append(l, t)
	}
	return l
}

// leads reports whether one of the walks w leads from a to b.
func leads(w []*table, a, b int) bool {
	return slices.ContainsFunc(w, func(t *table) bool { return t[a][b] <= api.MaxDistance })
}

// marks returns the marks of all vertices. In each class, the first closed walk of negative weight, by its number of steps and then by its vertex, is one from the anchor; it has no vertex twice, and so no more steps than there are vertices. Nothing is searched where no weight is negative.
func (r roads) marks() marks {
	var m marks
	for id := range m {
		m[id] = unmarked()
	}
	if !slices.ContainsFunc(r, func(e api.Edge) bool { return e.Weight < 0 }) {
		return m
	}
	w := r.walks()
	var anchors []int
	for steps, t := range w {
		for id := range t {
			known := func(a int) bool { return leads(w, a, id) && leads(w, id, a) }
			if t[id][id] < 0 && !slices.ContainsFunc(anchors, known) {
				anchors = append(anchors, id)
				r.circle(&m, w[:steps], id)
			}
		}
	}
	return m
}

// circle marks the vertices of the cycle of the anchor, which has as many steps as there are tables of walks with less. Each step is the first one after which the rest can still make the weight negative.
func (r roads) circle(m *marks, less []*table, anchor int) {
	at, sum := anchor, 0
	for position := range less {
		rest := less[len(less)-position-1]
		for s := range r.from(at) {
			if sum+s.weight+rest[s.to][anchor] < 0 {
				m[at] = mark{anchor, position, sum, s.edge}
				at, sum = s.to, sum+s.weight
				break
			}
		}
	}
}
