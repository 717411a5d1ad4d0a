package blossom

import (
	"iter"

	"clearway/api"
)

// pairing pairs nodes that are joined.
type pairing struct {
	joined [api.MaxVertices]set
	mate   [api.MaxVertices]int
}

// tree is what is reached from a node without a mate, its root, on ways on which every second step leads to a mate. What such a step has reached is outer; each other node that is reached knows from where. A way that comes back to itself after an odd number of steps can be gone round in both directions, so all nodes on it become outer; they have the same base from then on, the one where it began.
type tree struct {
	*pairing
	found      set
	queue      []int
	from, base [api.MaxVertices]int
}

// outer pairs as many nodes as possible, and returns those that can be left out. A tree that does not reach another node without a mate stays as it is whatever is paired later, so its outer nodes are final.
func (p *pairing) outer(nodes set) set {
	for v := range p.mate {
		p.mate[v] = none
	}
	var all set
roots:
	for root := range nodes.all() {
		if p.mate[root] != none {
			continue
		}
		t := p.plant(root)
		for len(t.queue) > 0 {
			u := t.queue[0]
			t.queue = t.queue[1:]
			for v := range p.joined[u].all() {
				switch {
				case t.found.has(v):
					t.shrink(u, v)
				case t.from[v] == none:
					t.from[v] = u
					if p.mate[v] == none {
						t.turn(v)
						continue roots
					}
					t.reach(p.mate[v])
				}
			}
		}
		all |= t.found
	}
	return all
}

// around returns the nodes that can be reached from some of them without leaving a set.
func (p *pairing) around(some, inside set) set {
	for seen := set(0); seen != some; {
		seen = some
		for v := range seen.all() {
			some |= p.joined[v] & inside
		}
	}
	return some
}

// plant returns a tree that has reached nothing but its root.
func (p *pairing) plant(root int) *tree {
	t := &tree{pairing: p}
	for v := range t.base {
		t.from[v], t.base[v] = none, v
	}
	t.reach(root)
	return t
}

// reach adds the outer node v.
func (t *tree) reach(v int) {
	t.found |= only(v)
	t.queue = append(t.queue, v)
}

// shrink gives all nodes on the ways from the joined outer nodes u and v to where these meet the same base; there are none if they have the same one already.
func (t *tree) shrink(u, v int) {
	base := t.meet(u, v)
	round := t.back(u, v, base) | t.back(v, u, base)
	for x := range t.base {
		if round.has(t.base[x]) {
			t.base[x] = base
			if !t.found.has(x) {
				t.reach(x)
			}
		}
	}
}

// meet returns the first base that is on the ways back to the root from both u and v.
func (t *tree) meet(u, v int) int {
	var way set
	for b := range t.bases(u) {
		way |= only(b)
	}
	for b := range t.bases(v) {
		if way.has(b) {
			return b
		}
	}
	return none
}

// bases yields the bases on the way back to the root from the outer node u.
func (t *tree) bases(u int) iter.Seq[int] {
	return func(yield func(int) bool) {
		for b := t.base[u]; yield(b) && t.mate[b] != none; {
			b = t.base[t.from[t.mate[b]]]
		}
	}
}

// back returns the bases on the way back from u to base. The outer nodes on it learn that they can also be reached from the other side, by v.
func (t *tree) back(u, v, base int) set {
	var way set
	for t.base[u] != base {
		t.from[u] = v
		v = t.mate[u]
		way |= only(t.base[u]) | only(t.base[v])
		u = t.from[v]
	}
	return way
}

// turn pairs v, which has no mate, with the node from which it was reached, and so on back to the root.
func (t *tree) turn(v int) {
	for v != none {
		u := t.from[v]
		next := t.mate[u]
		t.mate[u], t.mate[v] = v, u
		v = next
	}
}
