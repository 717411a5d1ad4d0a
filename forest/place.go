package forest

import (
	"slices"

	"clearway/api"
	"clearway/graph"
)

// place is where a vertex stands in the spanning forest: what its label says.
type place struct {
	root, depth, edge int
}

// grow returns the places of all vertices of the valid graph g.
func grow(g api.Graph) map[int]place {
	places := spread(g)
	for _, v := range g.Vertices {
		p := places[v.ID]
		p.edge = up(v.ID, graph.At(g, v.ID), places)
		places[v.ID] = p
	}
	return places
}

// spread returns the places of all vertices of the valid graph g, as yet without their edges. As vertices ascend, the first one of a component is its root; and as all vertices of a depth are in the queue before those behind them, each is met at its least depth.
func spread(g api.Graph) map[int]place {
	places := map[int]place{}
	var queue []int
	meet := func(id int, p place) {
		places[id] = p
		queue = append(queue, id)
	}
components:
	for _, v := range g.Vertices {
		if _, met := places[v.ID]; met {
			continue components
		}
		meet(v.ID, place{root: v.ID})
		for ; len(queue) > 0; queue = queue[1:] {
			at := queue[0]
		edges:
			for _, e := range graph.At(g, at) {
				id := graph.Other(e, at)
				if _, met := places[id]; met {
					continue edges
				}
				meet(id, place{root: v.ID, depth: places[at].depth + 1})
			}
		}
	}
	return places
}

// up returns the number of the first one of l, the edges at the vertex id, whose other end has a depth that is less by 1, or -1 if there is none. All of these vertices have places.
func up(id int, l []api.Edge, places map[int]place) int {
	for _, e := range l {
		if places[graph.Other(e, id)].depth == places[id].depth-1 {
			return e.ID
		}
	}
	return -1
}

// read returns the places that the labels l tell, for those vertices whose label has three numbers. It goes from the last one to the first, so that of several labels of a vertex the first one counts, whatever it has.
func read(l []api.Named) map[int]place {
	places := map[int]place{}
	for _, x := range slices.Backward(l) {
		delete(places, x.ID)
		if len(x.Label) == 3 {
			places[x.ID] = place{x.Label[0], x.Label[1], x.Label[2]}
		}
	}
	return places
}
