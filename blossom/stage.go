package blossom

import (
	"math"
	"slices"

	"clearway/api"
)

// never is later than everything that happens.
const never = math.MaxInt

// stage is how far the duals are, and what they make of the vertices: for each one, the node in which it is, and its cluster, if that node is outer. The vertices of inner nodes are in inner.
type stage struct {
	duals
	vertices, inner set
	node, cluster   [api.MaxVertices]set
}

// solve returns the dual solution of the valid graph g.
func solve(g api.Graph) duals {
	l := links(g)
	s := &stage{}
	start := 0
	for _, x := range l {
		start = max(start, x.price)
	}
	for _, v := range g.Vertices {
		s.y[v.ID] = start
		s.vertices |= only(v.ID)
	}
	for more := true; more; {
		s.look(l)
		more = s.outer() != 0 && s.shift(s.next(l))
	}
	return s.duals
}

// slack returns what tells how much more the duals at a link between two nodes are than they have to be. No set has both of its ends.
func (s *stage) slack() func(l link) int {
	return func(l link) int { return s.y[l.from] + s.y[l.to] - 2*l.price }
}

// look finds out the nodes, and which of them are outer or inner. Nodes are numbered by their least vertices.
func (s *stage) look(l []link) {
	nodes := s.group()
	p := pairing{}
	slack := s.slack()
	for _, x := range l {
		if a, b := s.node[x.from].least(), s.node[x.to].least(); a != b && slack(x) == 0 {
			p.joined[a] |= only(b)
			p.joined[b] |= only(a)
		}
	}
	outer := p.outer(nodes)
	s.inner = 0
	s.cluster = [api.MaxVertices]set{}
	for a := range outer.all() {
		for b := range p.joined[a].all() {
			if !outer.has(b) {
				s.inner |= s.node[b]
			}
		}
		if s.cluster[a] == 0 {
			s.collect(p.around(only(a), outer))
		}
	}
}

// group finds the node of each vertex: the greatest set of the family in which it is, or itself alone. Greater sets have entered the family later. It returns the numbers of all nodes.
func (s *stage) group() set {
	for v := range s.vertices.all() {
		s.node[v] = only(v)
	}
	for _, o := range s.odds {
		for v := range o.members.all() {
			s.node[v] = o.members
		}
	}
	var nodes set
	for v := range s.vertices.all() {
		nodes |= only(s.node[v].least())
	}
	return nodes
}

// collect makes a cluster of the given nodes.
func (s *stage) collect(nodes set) {
	var c set
	for a := range nodes.all() {
		c |= s.node[a]
	}
	for v := range c.all() {
		s.cluster[v] = c
	}
}

// outer returns the vertices of outer nodes.
func (s *stage) outer() set {
	var all set
	for _, c := range s.cluster {
		all |= c
	}
	return all
}

// isInner reports whether o is an inner node.
func (s *stage) isInner(o odd) bool {
	v := o.members.least()
	return s.inner.has(v) && s.node[v] == o.members
}

// next returns how much the duals can change until something happens.
func (s *stage) next(l []link) int {
	slack := s.slack()
	outer := slices.Collect(s.outer().all())
	d := soonest(never, outer, func(v int) int { return s.y[v] })
	d = soonest(d, l, func(x link) int {
		a, b := s.cluster[x.from], s.cluster[x.to]
		switch {
		case a == b || s.inner.has(x.from) || s.inner.has(x.to):
			return never
		case a == 0 || b == 0:
			return slack(x)
		}
		return slack(x) / 2
	})
	return soonest(d, s.odds, func(o odd) int {
		if !s.isInner(o) {
			return never
		}
		return o.dual / 2
	})
}

// soonest returns the least of d and of the times of l.
func soonest[T any](d int, l []T, time func(T) int) int {
	for _, x := range l {
		d = min(d, time(x))
	}
	return d
}

// shift changes the duals by d, and reports whether all of those at outer nodes are positive still.
func (s *stage) shift(d int) bool {
	for i, o := range s.odds {
		if s.isInner(o) {
			s.odds[i].dual -= 2 * d
		}
	}
	s.odds = slices.DeleteFunc(s.odds, func(o odd) bool { return o.dual == 0 })
	positive := true
	for v, c := range s.cluster {
		if c != 0 {
			s.y[v] -= d
			positive = positive && s.y[v] > 0
			if v == c.least() && c.size() > 1 {
				s.raise(c, 2*d)
			}
		} else if s.inner.has(v) {
			s.y[v] += d
		}
	}
	return positive
}

// raise raises the dual of the set c by n; if c is not in the family, it enters it.
func (s *stage) raise(c set, n int) {
	i := slices.IndexFunc(s.odds, func(o odd) bool { return o.members == c })
	if i < 0 {
		s.odds = append(s.odds, odd{members: c})
		i = len(s.odds) - 1
	}
	s.odds[i].dual += n
}
