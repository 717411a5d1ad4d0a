package graph

import (
	"clearway/api"
	"clearway/wire"
)

// reader reads the string s from the offset at on. Where s has not what is to be read, the reader gives up by a panic, so that nobody has to ask after each number whether there was one.
type reader struct {
	s  string
	at int
}

// DecodeChange returns the change whose encoding begins in s at the offset at, and the offset after it.
func DecodeChange(s string, at int) (api.Change, int, api.Errno) {
	return decode(s, at, (*reader).change)
}

// Decode returns the valid graph whose encoding begins in s at the offset at, and the offset after it.
func Decode(s string, at int) (api.Graph, int, api.Errno) {
	return decode(s, at, (*reader).graph)
}

// decode returns what read reads in s from the offset at on, and the offset after it, or ErrGraph if the reader gives up.
func decode[T any](s string, at int, read func(*reader) T) (value T, next int, e api.Errno) {
	defer func() {
		if recover() != nil { // value and next are still zero
			e = api.ErrGraph
		}
	}()
	r := &reader{s: s, at: at}
	value = read(r)
	return value, r.at, api.OK
}

// number reads a number.
func (r *reader) number() int {
	n, next, e := wire.Int(r.s, r.at)
	if e != api.OK {
		panic(e)
	}
	r.at = next
	return n
}

// upTo reads a number from 0 to most.
func (r *reader) upTo(most int) int {
	n := r.number()
	if !within(n, 0, most) {
		panic(api.ErrGraph)
	}
	return n
}

// vertex reads the numbers of a vertex.
func (r *reader) vertex() api.Vertex {
	return api.Vertex{ID: r.number(), Side: r.number()}
}

// edge reads the numbers of an edge.
func (r *reader) edge() api.Edge {
	return api.Edge{ID: r.number(), From: r.number(), To: r.number(), Directed: r.upTo(1) == 1, Weight: r.number(), Cap: r.number()}
}

// list reads how many elements there are, at most most of them, and each of them by one.
func list[T any](r *reader, most int, one func(*reader) T) []T {
	var l []T
	for range r.upTo(most) {
		l = append(l, one(r))
	}
	return l
}

// change reads a change, which need not act on any graph.
func (r *reader) change() api.Change {
	return api.Change{
		Kind:   r.number(),
		Vertex: r.vertex(),
		Edge:   r.edge(),
		ID:     r.number(),
		N:      r.number(),
		Ends:   list(r, maxEnds, (*reader).number),
		Depots: list(r, api.MaxDepots, (*reader).number),
	}
}

// graph reads a valid graph.
func (r *reader) graph() api.Graph {
	g := api.Graph{
		Vertices: list(r, api.MaxVertices, (*reader).vertex),
		Edges:    list(r, api.MaxEdges, (*reader).edge),
		Depots:   list(r, api.MaxDepots, (*reader).number),
	}
	if !Valid(g) {
		panic(api.ErrGraph)
	}
	return g
}
