package blossom

import (
	"math/rand"
	"testing"
)

// most returns how many pairs of joined nodes there are among some of them at most.
func most(p *pairing, some set, known map[set]int) int {
	if some == 0 {
		return 0
	}
	if n, ok := known[some]; ok {
		return n
	}
	v := some.least()
	rest := some &^ only(v)
	n := most(p, rest, known)
	for w := range 24 {
		if rest.has(w) && p.joined[v].has(w) {
			n = max(n, 1+most(p, rest&^only(w), known))
		}
	}
	known[some] = n
	return n
}

// P13.1: which nodes are outer, however nodes are joined. (No two matchings have the same value, so tight edges make hardly any even cycles, and graphs do not lead to all that the search can do.)
func TestOuterNodes(t *testing.T) {
	r := rand.New(rand.NewSource(1))
	few, many := 0, 0
	for range 30000 {
		n := 1 + r.Intn(12)
		ids := r.Perm(24)[:n]
		p := &pairing{}
		var nodes set
		for _, v := range ids {
			nodes |= only(v)
		}
		for range r.Intn(1 + n*3/2 + r.Intn(n)) {
			if a, b := ids[r.Intn(n)], ids[r.Intn(n)]; a != b {
				p.joined[a] |= only(b)
				p.joined[b] |= only(a)
			}
		}
		known := map[set]int{}
		var want set
		for _, v := range ids {
			if most(p, nodes&^only(v), known) == most(p, nodes, known) {
				want |= only(v)
			}
		}
		if got := p.outer(nodes); got != want {
			t.Fatalf("%b joined by %b: %b, not %b", nodes, p.joined, got, want)
		}
		for v, w := range p.mate {
			if w != none && (p.mate[w] != v || !p.joined[v].has(w)) {
				t.Fatalf("%b joined by %b: %v", nodes, p.joined, p.mate)
			}
		}
		if want.size() > 1 && want != nodes {
			few++
		}
		if want.size() > 6 {
			many++
		}
	}
	if few < 5000 || many < 2000 {
		t.Error("too few of a kind:", few, many)
	}
}
