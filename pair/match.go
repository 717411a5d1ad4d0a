package pair

import (
	"iter"
	"math"
	"slices"

	"clearway/api"
)

// matching has the link of the matching at each vertex, by its number.
type matching [api.MaxVertices]link

// plan pairs left vertices with numbers from 0 to 23, the right vertices among them, so that all pairs together gain as much as they can. A pair without a link gains nothing, and means that the left vertex is free. No pair gains more than the potentials of both are together, and those of the plan gain as much.
type plan struct {
	links       [api.MaxVertices][api.MaxVertices]link
	left, right [api.MaxVertices]int
	mate        [api.MaxVertices]int
}

// tree is what can be reached from a left vertex that has no mate yet, by pairs that gain as much as their potentials and, back, by pairs of the plan: some left vertices, and their mates. For each other number, it knows how much more the potentials are than what a pair with a vertex of the tree gains, at least, and with which one.
type tree struct {
	left  []int
	mates [api.MaxVertices]bool
	slack [api.MaxVertices]int
	from  [api.MaxVertices]int
}

// match returns the matching of the valid graph g: the left vertices join a plan one after the other.
func match(g api.Graph) matching {
	p := planOf(links(g))
	for _, v := range g.Vertices {
		if v.Side == api.SLeft {
			p.add(v.ID)
		}
	}
	var m matching
	for u, v := range p.mate {
		if v != none && p.links[u][v].price > 0 {
			m[u], m[v] = p.links[u][v], p.links[u][v]
		}
	}
	return m
}

// planOf returns a plan without pairs. Of several links of a pair, the one with the greatest price counts.
func planOf(all iter.Seq[link]) *plan {
	p := &plan{}
	for l := range all {
		if l.price > p.links[l.left][l.right].price {
			p.links[l.left][l.right] = l
		}
	}
	for u := range p.mate {
		p.mate[u] = none
	}
	return p
}

// add gives a mate to the left vertex start, too: the tree grows until it reaches a number that is no mate, and on the way back, each vertex takes the mate of the next one. There is such a number, as each vertex has at most one of them.
func (p *plan) add(start int) {
	t := &tree{}
	for v := range t.slack {
		t.slack[v] = math.MaxInt
	}
	end := none
	for u := start; u != none; u = slices.Index(p.mate[:], end) {
		p.reach(t, u)
		end = best(t.outside(), func(v int) int { return -t.slack[v] })
		p.shift(t, t.slack[end])
		t.mates[end] = true
	}
	for end != none {
		u := t.from[end]
		end, p.mate[u] = p.mate[u], end
	}
}

// reach adds the left vertex u to the tree t.
func (p *plan) reach(t *tree, u int) {
	t.left = append(t.left, u)
	for v, l := range p.links[u] {
		if slack := p.left[u] + p.right[v] - l.price; slack < t.slack[v] {
			t.slack[v], t.from[v] = slack, u
		}
	}
}

// outside yields the numbers that are not in the tree.
func (t *tree) outside() iter.Seq[int] {
	return func(yield func(int) bool) {
		for v, inside := range t.mates {
			if !inside && !yield(v) {
				return
			}
		}
	}
}

// shift changes the potentials of the tree t so that pairs within it gain as much as before, and all others with its left vertices less by n.
func (p *plan) shift(t *tree, n int) {
	for _, u := range t.left {
		p.left[u] -= n
	}
	for v, inside := range t.mates {
		if inside {
			p.right[v] += n
		} else {
			t.slack[v] -= n
		}
	}
}

// duals returns the duals of all vertices. Those on the left are raised from 0 by what links lack, as long as one lacks something. A free left vertex is never raised: if a link lacked something there, a better matching would have it.
func (m matching) duals(all iter.Seq[link]) [api.MaxVertices]int {
	var d [api.MaxVertices]int
	for v, l := range m {
		if v == l.right {
			d[v] = l.price
		}
	}
	for raised := true; raised; {
		raised = false
		for l := range all {
			if lack := l.price - d[l.left] - d[l.right]; lack > 0 {
				d[l.left] += lack
				d[m[l.left].right] -= lack
				raised = true
			}
		}
	}
	return d
}
