package page

import (
	"maps"
	"slices"

	"clearway/api"
	"clearway/graph"
)

// Neighbours returns the other ends of those edges of l of which id is an end, without id, in ascending order.
func Neighbours(id int, l []api.Edge) []int {
	near := map[int]bool{}
	for _, e := range l {
		if e.From == id || e.To == id {
			near[graph.Other(e, id)] = true
		}
	}
	delete(near, id)
	return slices.Sorted(maps.Keys(near))
}

// View returns the view of the vertex id of the valid graph g with the labels.
func View(g api.Graph, labels []api.Named, id int) (api.View, api.Errno) {
	v, found := vertex(g, id)
	if !found || !graph.Valid(g) || !validLabels(labels) {
		return api.View{}, api.ErrPage
	}
	w := api.View{Vertex: v, Depots: slices.Clone(g.Depots), Edges: graph.At(g, id)}
	near := Neighbours(id, w.Edges)
	for _, x := range labels {
		if x.ID == id || slices.Contains(near, x.ID) {
			w.Labels = append(w.Labels, api.Named{ID: x.ID, Label: slices.Clone(x.Label)})
		}
	}
	return w, api.OK
}

// validLabels reports whether l are labels.
func validLabels(l []api.Named) bool {
	last := -1
	for _, x := range l {
		if x.ID <= last || x.ID >= api.MaxVertices || len(x.Label) > api.MaxLabel {
			return false
		}
		last = x.ID
	}
	return true
}
