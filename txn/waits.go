package txn

import (
	"cmp"
	"slices"

	"clearway/api"
)

// Waits returns the pairs of clients of which the first one waits for the second one in the desk d, whatever d is.
func Waits(d api.Desk) [][2]int {
	var l [][2]int
	for _, s := range d.Sessions {
		for _, client := range holders(d, s.Client, needs(d.Graph, s.Waits)) {
			l = append(l, [2]int{s.Client, client})
		}
	}
	slices.SortFunc(l, func(a, b [2]int) int {
		return cmp.Or(cmp.Compare(a[0], b[0]), cmp.Compare(a[1], b[1]))
	})
	return slices.Compact(l)
}

// needs returns the locks that the request r needs in the graph g.
func needs(g api.Graph, r api.Request) []api.Lock {
	switch r.Kind {
	case api.RChange:
		return Locks(g, r.Change)
	case api.RRead:
		return []api.Lock{r.Lock}
	}
	return nil
}

// holders returns the other clients of d which have locks that conflict with locks that this client needs.
func holders(d api.Desk, client int, needed []api.Lock) []int {
	var l []int
	for _, s := range d.Sessions {
		if s.Client != client && slices.ContainsFunc(needed, keysOf(s.Locks).conflicts) {
			l = append(l, s.Client)
		}
	}
	return l
}

// inCircle reports whether the client waits, in the pairs of Waits, for one that waits for one, and so on, that is the client.
func inCircle(waits [][2]int, client int) bool {
	seen := map[int]bool{}
	next := []int{client}
	for len(next) > 0 {
		at := next[0]
		next = next[1:]
		for _, w := range waits {
			if w[0] == at && !seen[w[1]] {
				seen[w[1]] = true
				next = append(next, w[1])
			}
		}
	}
	return seen[client]
}
