package trade

import (
	"cmp"
	"slices"

	"clearway/api"
)

// label is what is said of a vertex: in which round a trader leaves, with which edge, or none, and how many steps it is from one that is kept waiting.
type label struct{ round, edge, steps int }

// outside is what is said of a vertex that is no trader.
func outside() label { return label{edge: none} }

// market has edges by their numbers, the wishes of each trader, those that it prefers to others before these, and the labels of vertices.
type market struct {
	edges  [api.MaxEdges]api.Edge
	wishes map[int][]int
	labels map[int]label
}

// marketOf returns the market of these traders, with all wishes among l, and without labels.
func marketOf(l []api.Edge, traders map[int]bool) *market {
	m := &market{wishes: map[int][]int{}, labels: map[int]label{}}
	for _, e := range l {
		m.edges[e.ID] = e
		if e.Directed && e.From != e.To && traders[e.From] && traders[e.To] {
			m.wishes[e.From] = append(m.wishes[e.From], e.ID)
		}
	}
	for _, w := range m.wishes {
		slices.SortFunc(w, m.compare)
	}
	return m
}

// compare orders two wishes of a trader: the one that it prefers comes first.
func (m *market) compare(a, b int) int {
	return cmp.Or(cmp.Compare(m.edges[b].Weight, m.edges[a].Weight), cmp.Compare(a, b))
}

// better returns the wishes that the trader v prefers to that with the number edge, or to staying alone. It reports false if this is no wish of v.
func (m *market) better(v, edge int) ([]int, bool) {
	w := m.wishes[v]
	if edge == none {
		return w, true
	}
	i := slices.Index(w, edge)
	return w[:max(i, 0)], i >= 0
}

// kept reports whether the trader v is kept waiting, as the labels say: in the round before its own, one left from whom it would rather have had something.
func (m *market) kept(v int) bool {
	own := m.labels[v]
	l, _ := m.better(v, own.edge)
	return slices.ContainsFunc(l, func(id int) bool { return m.partner(id).round == own.round-1 })
}

// partner returns the label of the trader to whom an edge leads.
func (m *market) partner(edge int) label { return m.labels[m.edges[edge].To] }

// steps returns the number of steps from the vertex v to a trader that is kept waiting, along the edges with which traders have left. Each cycle has one, but for those of the first round: it would have left before, if it had pointed along the same edges.
func (m *market) steps(v int) int {
	n := 0
	for m.labels[v].round > 1 && !m.kept(v) {
		v, n = m.edges[m.labels[v].edge].To, n+1
	}
	return n
}
