package digest_test

import (
	"crypto/sha256"
	"fmt"
	"math/bits"
	"slices"
	"strings"
	"testing"

	"clearway/api"
	"clearway/digest"
)

// hash returns the SHA-256 of the parts, one after the other, as crypto/sha256 computes it.
func hash(parts ...string) string {
	h := sha256.Sum256([]byte(strings.Join(parts, "")))
	return string(h[:])
}

// levels returns the digests of a tree, the leaves first: each further level has the nodes of the pairs of the one below it, and the last digest of that one if it belongs to no pair. It is another way to the tree that the document defines from the top.
func levels(l []string) [][]string {
	if len(l) == 0 {
		return [][]string{{hash()}}
	}
	var row []string
	for _, s := range l {
		row = append(row, hash("\x00", s))
	}
	all := [][]string{row}
	for len(row) > 1 {
		var next []string
		for ; len(row) > 1; row = row[2:] {
			next = append(next, hash("\x01", row[0], row[1]))
		}
		row = append(next, row...)
		all = append(all, row)
	}
	return all
}

// top returns the root of the tree with these levels.
func top(all [][]string) string { return all[len(all)-1][0] }

// path returns the siblings from the entry at of the lowest level up to the root.
func path(all [][]string, at int) []string {
	var out []string
	for _, row := range all {
		if at^1 < len(row) {
			out = append(out, row[at^1])
		}
		at /= 2
	}
	return out
}

// extensionPath returns the extension proof from m entries on, m at least 1 and less than the number of entries.
func extensionPath(all [][]string, m int) []string {
	at, level := m-1, 0
	for at%2 == 1 {
		at, level = at/2, level+1
	}
	var out []string
	if at > 0 {
		out = append(out, all[level][at])
	}
	return append(out, path(all[level:], at)...)
}

// value returns the root that a proof leads to, from the leaf upwards, as in RFC 9162; ok tells whether the proof has the right number of elements.
func value(n, i int, s string, proof []string) (r string, ok bool) {
	at, last := uint64(i), uint64(n-1)
	r = hash("\x00", s)
	for _, p := range proof {
		if last == 0 {
			return "", false
		}
		if at%2 == 1 || at == last {
			r = hash("\x01", p, r)
			for at%2 == 0 && at != 0 {
				at, last = at/2, last/2
			}
		} else {
			r = hash("\x01", r, p)
		}
		at, last = at/2, last/2
	}
	return r, last == 0
}

// values returns the two roots that an extension proof leads to, from the leaf upwards, as in RFC 9162, for m from 1 to n-1.
func values(old string, m, n int, proof []string) (a, b string, ok bool) {
	if bits.OnesCount(uint(m)) == 1 {
		proof = append([]string{old}, proof...)
	}
	if len(proof) == 0 {
		return "", "", false
	}
	at, last := uint64(m-1), uint64(n-1)
	for at%2 == 1 {
		at, last = at/2, last/2
	}
	a, b = proof[0], proof[0]
	for _, p := range proof[1:] {
		if last == 0 {
			return "", "", false
		}
		if at%2 == 1 || at == last {
			a, b = hash("\x01", p, a), hash("\x01", p, b)
			for at%2 == 0 && at != 0 {
				at, last = at/2, last/2
			}
		} else {
			b = hash("\x01", b, p)
		}
		at, last = at/2, last/2
	}
	return a, b, last == 0
}

// allDigests reports whether all strings have 32 bytes.
func allDigests(l ...string) bool {
	for _, s := range l {
		if len(s) != 32 {
			return false
		}
	}
	return true
}

// verify is what Verify must return.
func verify(root string, n, i int, s string, proof []string) bool {
	if i < 0 || i >= n || !allDigests(proof...) {
		return false
	}
	v, ok := value(n, i, s, proof)
	return ok && v == root
}

// verifyExtension is what VerifyExtension must return.
func verifyExtension(old string, m int, root string, n int, proof []string) bool {
	switch {
	case m < 0 || m > n || !allDigests(old, root) || !allDigests(proof...):
		return false
	case m == 0:
		return len(proof) == 0 && old == hash()
	case m == n:
		return len(proof) == 0 && old == root
	}
	a, b, ok := values(old, m, n, proof)
	return ok && a == old && b == root
}

// entries returns n different strings, the first of which is empty.
func entries(n int) []string {
	l := make([]string, n)
	for i := range l {
		if i > 0 {
			l[i] = fmt.Sprint("entry ", i)
		}
	}
	return l
}

// sizes returns the numbers of entries of the lists that are tested: all small ones, and those around powers of two.
func sizes() []int {
	var l []int
	for n := range 36 {
		l = append(l, n)
	}
	for k := 6; k < 9; k++ {
		l = append(l, 1<<k-1, 1<<k, 1<<k+1)
	}
	return l
}

// others returns the indexes from 0 to n-1, or, of a long list, some of them: the ends, and those around i.
func others(n, i int) []int {
	var l []int
	for k := range n {
		if n < 40 || k < 2 || k > n-3 || k > i-3 && k < i+3 {
			l = append(l, k)
		}
	}
	return l
}

// proofOf returns a proof of an entry that is there.
func proofOf(t *testing.T, l []string, i int) []string {
	t.Helper()
	p, e := digest.Proof(l, i)
	if e != api.OK {
		t.Fatalf("Proof of %d entries, %d: error %d", len(l), i, e)
	}
	return p
}

// extensionOf returns a proof of an extension of the first m entries, m from 0 to their number.
func extensionOf(t *testing.T, l []string, m int) []string {
	t.Helper()
	p, e := digest.Extension(l, m)
	if e != api.OK {
		t.Fatalf("Extension of %d entries, %d: error %d", len(l), m, e)
	}
	return p
}

// wantVerify fails the test if Verify does not return want, or if the reference does not.
func wantVerify(t *testing.T, want bool, root string, n, i int, s string, proof []string) {
	t.Helper()
	if verify(root, n, i, s, proof) != want {
		t.Fatalf("the test is wrong: Verify(%x, %d, %d, %.20q, %x) must not be %t", root, n, i, s, proof, want)
	}
	if digest.Verify(root, n, i, s, proof) != want {
		t.Fatalf("Verify(%x, %d, %d, %.20q, %x) is not %t", root, n, i, s, proof, want)
	}
}

// wantExtension fails the test if VerifyExtension does not return want, or if the reference does not.
func wantExtension(t *testing.T, want bool, old string, m int, root string, n int, proof []string) {
	t.Helper()
	if verifyExtension(old, m, root, n, proof) != want {
		t.Fatalf("the test is wrong: VerifyExtension(%x, %d, %x, %d, %x) must not be %t", old, m, root, n, proof, want)
	}
	if digest.VerifyExtension(old, m, root, n, proof) != want {
		t.Fatalf("VerifyExtension(%x, %d, %x, %d, %x) is not %t", old, m, root, n, proof, want)
	}
}

// noDigests returns strings that are like the digest d, but of another size.
func noDigests(d string) []string {
	return []string{"", d[:31], d[1:], d + "\x00", "\x00" + d, d + d}
}

// flipped returns d with one bit flipped.
func flipped(d string, bit int) string {
	b := []byte(d)
	b[bit/8] ^= 1 << (bit % 8)
	return string(b)
}

// damaged returns proofs that are like p, but none of which leads to the same root if p does: an element too many or too few, one that is no digest, and another one.
func damaged(p []string) [][]string {
	var out [][]string
	for i := range len(p) + 1 {
		for _, x := range append([]string{hash("x"), hash()}, p...) {
			out = append(out, replaced(p, i, i, x))
		}
		if i == len(p) {
			break
		}
		out = append(out, replaced(p, i, i+1))
		for _, x := range noDigests(p[i]) {
			out = append(out, replaced(p, i, i+1, x))
		}
		for bit := 0; bit < 256; bit += 51 {
			out = append(out, replaced(p, i, i+1, flipped(p[i], bit)))
		}
	}
	if len(p) > 0 {
		out = append(out, slices.Concat(p, p))
	}
	return out
}

// replaced returns a copy of p with the elements from i up to j replaced.
func replaced(p []string, i, j int, by ...string) []string {
	return slices.Concat(p[:i], by, p[j:])
}
