package txn

import (
	"cmp"
	"slices"

	"clearway/api"
	"clearway/graph"
)

// Locks returns the locks of the change c in the graph g, whatever both are.
func Locks(g api.Graph, c api.Change) []api.Lock {
	k := keys{}
	switch c.Kind {
	case api.CAddVertex:
		k.write(api.LVertex, c.Vertex.ID)
	case api.CDropVertex:
		k.write(api.LVertex, c.ID)
		k.read(api.LDepots, 0)
	case api.CAddEdge:
		k.write(api.LEdge, c.Edge.ID)
		k.read(api.LVertex, c.Edge.From, c.Edge.To)
	case api.CDropEdge:
		k.dropEdge(g, c)
	case api.CWeight, api.CCap:
		k.write(api.LEdge, c.ID)
	case api.CContract:
		k.contract(g, c)
	case api.CSplit:
		k.split(c)
	case api.CSide:
		k.write(api.LVertex, c.ID)
	case api.CDepots:
		k.write(api.LDepots, 0)
		k.read(api.LVertex, c.Depots...)
	}
	return k.list()
}

// keys is a set of locks, which are its keys.
type keys map[api.Lock]bool

// keysOf returns the set of the locks l.
func keysOf(l []api.Lock) keys {
	k := keys{}
	for _, lock := range l {
		k[lock] = true
	}
	return k
}

// write adds the rights to write the things of this kind with these numbers, and read those to read them.
func (k keys) write(kind int, ids ...int) {
	for _, id := range ids {
		k[api.Lock{Kind: kind, ID: id, Write: true}] = true
	}
}

func (k keys) read(kind int, ids ...int) {
	for _, id := range ids {
		k[api.Lock{Kind: kind, ID: id}] = true
	}
}

// dropEdge adds the locks of the CDropEdge c in g. (If g is not valid, several of its edges may have the number.)
func (k keys) dropEdge(g api.Graph, c api.Change) {
	k.write(api.LEdge, c.ID)
	for _, e := range g.Edges {
		if e.ID == c.ID {
			k.read(api.LVertex, e.From, e.To)
		}
	}
}

// contract adds the locks of the CContract c in g.
func (k keys) contract(g api.Graph, c api.Change) {
	k.write(api.LVertex, c.ID)
	for _, e := range graph.At(g, c.ID) {
		k.write(api.LEdge, e.ID)
	}
	k.read(api.LVertex, c.N)
	k.read(api.LDepots, 0)
}

// split adds the locks of the CSplit c.
func (k keys) split(c api.Change) {
	k.write(api.LVertex, c.Vertex.ID)
	for _, end := range c.Ends {
		if end >= 0 {
			k.write(api.LEdge, end/2)
		}
	}
	k.read(api.LVertex, c.ID)
}

// list returns the locks of k in order, without those to read what may be written.
func (k keys) list() []api.Lock {
	var l []api.Lock
	for lock := range k {
		if lock.Write || !k[forWriting(lock)] {
			l = append(l, lock)
		}
	}
	slices.SortFunc(l, order)
	return l
}

// conflicts reports whether a lock in k of one client, and lock of another one, conflict.
func (k keys) conflicts(lock api.Lock) bool {
	return k[forWriting(lock)] || lock.Write && k[forReading(lock)]
}

// forWriting returns the lock to write what lock is for, and forReading that to read it.
func forWriting(lock api.Lock) api.Lock {
	lock.Write = true
	return lock
}

func forReading(lock api.Lock) api.Lock {
	lock.Write = false
	return lock
}

// order compares two locks by their kinds, then by their numbers.
func order(a, b api.Lock) int {
	return cmp.Or(cmp.Compare(a.Kind, b.Kind), cmp.Compare(a.ID, b.ID))
}
