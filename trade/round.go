package trade

import (
	"slices"

	"clearway/api"
)

// pointer is where a trader points: along an edge to another one, or along none to itself.
type pointer struct{ edge, to int }

// pointers has where traders point, by their numbers.
type pointers [api.MaxVertices]pointer

// cleared returns the market of the valid graph g after all traders have left. Its labels have no steps.
func cleared(g api.Graph) *market {
	here := tradersOf(g)
	m := marketOf(g.Edges, here)
	for _, v := range g.Vertices {
		m.labels[v.ID] = outside()
	}
	m.leave(here)
	return m
}

// leave lets all traders leave that are here, cycle by cycle. A round is given up when those that are still here are on no cycle.
func (m *market) leave(here map[int]bool) {
rounds:
	for round := 1; len(here) > 0; round++ {
		p := m.point(here)
		for {
			v := p.start(here)
			if v == nobody {
				continue rounds
			}
			for ; here[v]; v = p[v].to {
				m.labels[v] = label{round: round, edge: p[v].edge}
				delete(here, v)
			}
		}
	}
}

// point returns where all traders point if only those that are here can be wished for.
func (m *market) point(here map[int]bool) *pointers {
	p := &pointers{}
	for v := range p {
		p[v] = pointer{edge: none, to: v}
		w := m.wishes[v]
		i := slices.IndexFunc(w, func(id int) bool { return here[m.edges[id].To] })
		if i >= 0 {
			p[v] = pointer{edge: w[i], to: m.edges[w[i]].To}
		}
	}
	return p
}

// start returns the least trader on a cycle of those that are here, or nobody.
func (p *pointers) start(here map[int]bool) int {
	for v := range p {
		if here[v] && p.returns(v) {
			return v
		}
	}
	return nobody
}

// returns reports whether the way along the pointers from the trader v comes back to it. If it does not within as many steps as there can be traders, it never does.
func (p *pointers) returns(v int) bool {
	at := v
	for range p {
		at = p[at].to
		if at == v {
			return true
		}
	}
	return false
}
