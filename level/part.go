package level

import (
	"iter"
	"slices"

	"clearway/api"
)

// part is a set of vertices. Those that are joined at a level have equal parts there, and those that are not have different ones.
type part [api.MaxVertices]bool

// partOf returns the part of the vertex v of s at the level i.
func partOf(s api.Leveled, v int, i int) part {
	var p part
	p[v] = true
	for queue := []int{v}; len(queue) > 0; queue = queue[1:] {
		for x, w := range at(s, queue[0]) {
			if x.Tree && x.Level >= i && !p[w] {
				p[w] = true
				queue = append(queue, w)
			}
		}
	}
	return p
}

// partsAt returns the parts of all vertices of s at the level i, by their numbers.
func partsAt(s api.Leveled, i int) [api.MaxVertices]part {
	var all [api.MaxVertices]part
	for _, v := range s.Vertices {
		if all[v] != (part{}) {
			continue
		}
		p := partOf(s, v, i)
		for w, in := range p {
			if in {
				all[w] = p
			}
		}
	}
	return all
}

// at yields the links of s at the vertex v, in order, and the other end of each of them: v itself, if it is a loop.
func at(s api.Leveled, v int) iter.Seq2[api.Link, int] {
	return func(yield func(api.Link, int) bool) {
		for _, x := range s.Links {
			other := x.To
			if other == v {
				other = x.From
			}
			if (x.From == v || x.To == v) && !yield(x, other) {
				return
			}
		}
	}
}

// size returns the number of vertices of p.
func (p part) size() int {
	n := 0
	for _, in := range p {
		if in {
			n++
		}
	}
	return n
}

// least returns the least vertex of p, or -1 if it has none.
func (p part) least() int { return slices.Index(p[:], true) }
