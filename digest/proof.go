package digest

import "clearway/api"

// Proof returns the proof of the entry with the index i in l.
func Proof(l []string, i int) ([]string, api.Errno) {
	if i < 0 || i >= len(l) {
		return nil, api.ErrArg
	}
	return proofOf(l, i), api.OK
}

// proofOf returns the proof of an entry that is there.
func proofOf(l []string, i int) []string {
	if len(l) == 1 {
		return nil
	}
	k := half(len(l))
	if i < k {
		return append(proofOf(l[:k], i), Root(l[k:]))
	}
	return append(proofOf(l[k:], i-k), Root(l[:k]))
}

// Verify reports whether the proof shows that s is the entry with the index i of a list with n entries and the given root.
func Verify(root string, n int, i int, s string, proof []string) bool {
	if i < 0 || i >= n || !digests(proof...) {
		return false
	}
	v, ok := value(n, i, s, proof)
	return ok && v == root
}

// value returns the value of n, i and the proof, and whether there is one: whether the proof has the right number of elements.
func value(n, i int, s string, proof []string) (string, bool) {
	if n == 1 {
		return Leaf(s), len(proof) == 0
	}
	if len(proof) == 0 {
		return "", false
	}
	last := len(proof) - 1
	k := half(n)
	if i < k {
		v, ok := value(k, i, s, proof[:last])
		return Node(v, proof[last]), ok
	}
	v, ok := value(n-k, i-k, s, proof[:last])
	return Node(proof[last], v), ok
}
