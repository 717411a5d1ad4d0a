package graph

import (
	"strings"

	"clearway/api"
	"clearway/wire"
)

// maxEnds is the greatest number of ends of a change: those of all edges.
const maxEnds = 2 * api.MaxEdges

// writer writes the encodings of numbers.
type writer struct {
	text   strings.Builder
	failed bool // there was a number that has no encoding
}

// EncodeChange returns the encoding of c, which need not act on any graph.
func EncodeChange(c api.Change) (string, api.Errno) {
	if len(c.Ends) > maxEnds || len(c.Depots) > api.MaxDepots {
		return "", api.ErrGraph
	}
	var w writer
	w.numbers(c.Kind)
	w.vertex(c.Vertex)
	w.edge(c.Edge)
	w.numbers(c.ID, c.N)
	w.list(c.Ends...)
	w.list(c.Depots...)
	return w.result()
}

// Encode returns the encoding of the valid graph g.
func Encode(g api.Graph) (string, api.Errno) {
	if !Valid(g) {
		return "", api.ErrGraph
	}
	var w writer
	w.numbers(len(g.Vertices))
	for _, v := range g.Vertices {
		w.vertex(v)
	}
	w.numbers(len(g.Edges))
	for _, e := range g.Edges {
		w.edge(e)
	}
	w.list(g.Depots...)
	return w.result()
}

// numbers writes each of l.
func (w *writer) numbers(l ...int) {
	for _, n := range l {
		s, e := wire.PutInt(n)
		if e != api.OK {
			w.failed = true
			return
		}
		w.text.WriteString(s)
	}
}

// list writes how many numbers there are in l, and each of them.
func (w *writer) list(l ...int) {
	w.numbers(len(l))
	w.numbers(l...)
}

// vertex writes the numbers of v.
func (w *writer) vertex(v api.Vertex) { w.numbers(v.ID, v.Side) }

// edge writes the numbers of e.
func (w *writer) edge(e api.Edge) {
	directed := 0
	if e.Directed {
		directed = 1
	}
	w.numbers(e.ID, e.From, e.To, directed, e.Weight, e.Cap)
}

// result returns what was written, or an error if one of the numbers could not be.
func (w *writer) result() (string, api.Errno) {
	if w.failed {
		return "", api.ErrGraph
	}
	return w.text.String(), api.OK
}
