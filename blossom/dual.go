package blossom

import "clearway/api"

// odd is a set of the family, and its dual.
type odd struct {
	members set
	dual    int
}

// link is a usable edge: its ends, and its price, which is positive.
type link struct{ from, to, price int }

// duals are those of all vertices, by their numbers, and the sets of the family in the order in which they entered it.
type duals struct {
	y    [api.MaxVertices]int
	odds []odd
}

// mate is the edge of the best matching at a vertex, and the other end of it; or none, twice.
type mate struct{ edge, vertex int }

// mates has the mate of each vertex, by its number.
type mates [api.MaxVertices]mate

// links returns the links of the valid graph g.
func links(g api.Graph) []link {
	var l []link
	for _, e := range g.Edges {
		if price := Price(e); e.From != e.To && price > 0 {
			l = append(l, link{e.From, e.To, price})
		}
	}
	return l
}

// matching returns the best matching of g, where d is the dual solution: twice its value is the sum of all duals, those of sets as often as pairs have room in them, and each edge has a bit of its own in the value.
func (d *duals) matching(g api.Graph) mates {
	twice := 0
	for _, y := range d.y {
		twice += y
	}
	for _, o := range d.odds {
		twice += o.members.size() / 2 * o.dual
	}
	var m mates
	for v := range m {
		m[v] = mate{none, none}
	}
	for _, e := range g.Edges {
		if twice/2>>(api.MaxEdges-1-e.ID)&1 == 1 {
			m[e.From], m[e.To] = mate{e.ID, e.To}, mate{e.ID, e.From}
		}
	}
	return m
}

// base returns the vertex of the odd set s whose mate is not in s.
func (m mates) base(s set) int {
	for v := range s.all() {
		if m[v].vertex == none || !s.has(m[v].vertex) {
			return v
		}
	}
	return none
}
