package digest

import "clearway/api"

// Extension returns a proof that l begins with its first m entries.
func Extension(l []string, m int) ([]string, api.Errno) {
	if m < 0 || m > len(l) {
		return nil, api.ErrArg
	}
	if m == 0 {
		return nil, api.OK
	}
	return part(l, m, true), api.OK
}

// part returns the part of the proof that is about l, of whose entries the first m, at least one, are old. whole says whether these are all the old entries that there are: whoever verifies the proof then knows their root already.
func part(l []string, m int, whole bool) []string {
	if m == len(l) {
		if whole {
			return nil
		}
		return []string{Root(l)}
	}
	k := half(len(l))
	if m <= k {
		return append(part(l[:k], m, whole), Root(l[k:]))
	}
	return append(part(l[k:], m-k, false), Root(l[:k]))
}

// VerifyExtension reports whether the proof shows that a list with n entries and the given root begins with m entries whose root is old.
func VerifyExtension(old string, m int, root string, n int, proof []string) bool {
	if m < 0 || m > n || !digests(old, root) || !digests(proof...) {
		return false
	}
	if m == 0 {
		return len(proof) == 0 && old == Root(nil)
	}
	a, b, ok := values(old, m, n, proof, true)
	return ok && a == old && b == root
}

// values returns the two values of m, n, the proof and whole, and whether there are any: whether the proof has the right number of elements. The first one is the root of the old entries, the second one that of all.
func values(old string, m, n int, proof []string, whole bool) (string, string, bool) {
	if m == n && whole {
		return old, old, len(proof) == 0
	}
	if len(proof) == 0 {
		return "", "", false
	}
	last := len(proof) - 1
	x, rest := proof[last], proof[:last]
	if m == n {
		return x, x, last == 0
	}
	k := half(n)
	if m <= k {
		a, b, ok := values(old, m, k, rest, whole)
		return a, Node(b, x), ok
	}
	a, b, ok := values(old, m-k, n-k, rest, false)
	return Node(x, a), Node(x, b), ok
}
