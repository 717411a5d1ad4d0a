package dist

import (
	"slices"

	"clearway/api"
)

// Where the parts of a block begin. What follows the way from the depot by its number of steps depends on the state: the way by its weight, or the way from an anchor and the mark.
const (
	stateAt    = 0
	hopsAt     = 1
	distanceAt = 3
	restAt     = 6
	escapeAt   = 3
	markAt     = 5
)

// block is what a label says of a vertex for a depot.
type block [api.DBlock]int

// blocks are those of all vertices for a depot, by their numbers.
type blocks [api.MaxVertices]block

// hops returns the way from the depot by its number of steps alone, if there is one.
func (b block) hops() way {
	if b[stateAt] == api.DNone {
		return way{}
	}
	return way{known: true, steps: b[hopsAt], edge: b[hopsAt+1]}
}

// distance returns the way from the depot by its weight, if the vertex has a distance.
func (b block) distance() way {
	if b[stateAt] != api.DFinite {
		return way{}
	}
	return way{true, b[distanceAt], b[distanceAt+1], b[distanceAt+2]}
}

// rest returns the numbers that a vertex with a distance does not need.
func (b block) rest() [3]int { return [3]int(b[restAt:]) }

// escape returns the way from an anchor by its number of steps alone, if the vertex is endless.
func (b block) escape() way {
	if b[stateAt] != api.DEndless {
		return way{}
	}
	return way{known: true, steps: b[escapeAt], edge: b[escapeAt+1]}
}

// mark returns the mark of a vertex that is endless.
func (b block) mark() mark { return mark{b[markAt], b[markAt+1], b[markAt+2], b[markAt+3]} }

// blockOf returns the block of a vertex with these ways and this mark.
func blockOf(hops, distance, escape way, m mark) block {
	switch {
	case escape.known:
		return block{api.DEndless, hops.steps, hops.edge, escape.steps, escape.edge, m.anchor, m.position, m.sum, m.edge}
	case distance.known:
		return block{api.DFinite, hops.steps, hops.edge, distance.weight, distance.steps, distance.edge}
	}
	return block{}
}

// blocksFor returns the blocks for a depot, where m are the marks that the roads give.
func (r roads) blocksFor(depot int, m marks) blocks {
	flat := r.flat()
	hops := flat.relax(depot)
	var anchors []int
	for id := range m {
		if m[id].anchor == id && hops[id].known {
			anchors = append(anchors, id)
		}
	}
	escapes := flat.relax(anchors...)
	// Each edge at an endless vertex has an endless To, and no walk to a vertex with a distance has such an edge.
	calm := slices.DeleteFunc(slices.Clone(r), func(e api.Edge) bool { return escapes[e.To].known })
	distances := calm.relax(depot)
	var b blocks
	for id := range b {
		b[id] = blockOf(hops[id], distances[id], escapes[id], m[id])
	}
	return b
}
