package digest_test

import (
	"math"
	"math/bits"
	"math/rand"
	"slices"
	"testing"

	"clearway/api"
	"clearway/digest"
)

// The chapter's example.
func TestExtensionExample(t *testing.T) {
	p := extensionOf(t, []string{"a", "b", "c"}, 1)
	if !slices.Equal(p, []string{digest.Leaf("b"), digest.Leaf("c")}) {
		t.Errorf("proof %x", p)
	}
}

// P2.1 and P2.2: the proof of every extension is the one that is defined, is accepted for this number of entries and no other one, and is short.
func TestExtensionAll(t *testing.T) {
	for _, n := range sizes() {
		l := entries(n)
		all := levels(l)
		var roots []string
		for m := range n + 1 {
			roots = append(roots, digest.Root(l[:m]))
		}
		for m := range n + 1 {
			p := extensionOf(t, l, m)
			var want []string
			if m > 0 && m < n {
				want = extensionPath(all, m)
			}
			if !slices.Equal(p, want) {
				t.Fatalf("Extension of %d entries, %d = %x, want %x", n, m, p, want)
			}
			if len(p) > 2*bits.Len(uint(n)) {
				t.Errorf("Extension of %d entries, %d has %d elements", n, m, len(p))
			}
			for _, k := range others(n+1, m) {
				wantExtension(t, k == m, roots[k], m, roots[n], n, p)
			}
		}
	}
}

// P2.2: the same for lists with equal entries, of which different beginnings have the same digests in them.
func TestExtensionEqualEntries(t *testing.T) {
	for n := range 18 {
		l := make([]string, n)
		for m := range n + 1 {
			wantExtension(t, true, digest.Root(l[:m]), m, digest.Root(l), n, extensionOf(t, l, m))
		}
	}
}

// P2.1: numbers of entries that the list does not have.
func TestExtensionRefused(t *testing.T) {
	for _, n := range sizes() {
		for _, m := range []int{-1, n + 1, -2, n + 2, -n - 1, 2*n + 1, math.MaxInt, math.MinInt, api.MaxInt, -api.MaxInt} {
			if p, e := digest.Extension(entries(n), m); len(p) != 0 || e != api.ErrArg {
				t.Errorf("Extension of %d entries, %d = %x, %d; want ErrArg", n, m, p, e)
			}
		}
	}
	if p, e := digest.Extension(nil, 0); len(p) != 0 || e != api.OK {
		t.Errorf("Extension of no entries = %x, %d", p, e)
	}
}

// P2.1: proofs with an element too many, too few, or another one; other digests than old and root, and what is no digest.
func TestVerifyExtensionDamaged(t *testing.T) {
	for n := range 20 {
		l := entries(n)
		root := digest.Root(l)
		for m := range n + 1 {
			old := digest.Root(l[:m])
			p := extensionOf(t, l, m)
			for _, q := range damaged(p) {
				wantExtension(t, false, old, m, root, n, q)
			}
			for _, other := range append(noDigests(old), flipped(old, 0), flipped(old, 255), digest.Leaf("x")) {
				wantExtension(t, false, other, m, root, n, p)
			}
			for _, other := range noDigests(root) {
				wantExtension(t, false, old, m, other, n, p)
				wantExtension(t, false, other, m, other, n, p)
			}
			for _, other := range []string{flipped(root, 0), flipped(root, 255), digest.Leaf("x")} {
				wantExtension(t, m == 0, old, m, other, n, p) // no entries are the beginning of any list
			}
		}
	}
}

// P2.1: an element that is no digest, and an old root that is none, are refused even if they lead to both roots.
func TestVerifyExtensionNoDigests(t *testing.T) {
	for n := 2; n < 20; n++ {
		l := entries(n)
		for m := 1; m < n; m++ {
			first, p := digest.Root(l[:m]), extensionOf(t, l, m)
			for k := range p {
				for _, x := range noDigests(p[k]) {
					q := replaced(p, k, k+1, x)
					old, root, ok := values(first, m, n, q)
					wantExtension(t, false, old, m, root, n, q)
					if !ok {
						t.Fatalf("no values of %d, %d and %x", m, n, q)
					}
				}
			}
			for _, x := range noDigests(first) {
				old, root, _ := values(x, m, n, p)
				wantExtension(t, bits.OnesCount(uint(m)) > 1, old, m, root, n, p) // x counts only if the old entries are a part of the tree
				wantExtension(t, false, x, m, root, n, p)
			}
		}
	}
}

// P2.1: a proof for other numbers of entries is accepted exactly if its values are the same, and never if the numbers are out of range.
func TestVerifyExtensionNumbers(t *testing.T) {
	for n := range 14 {
		l := entries(n)
		root := digest.Root(l)
		for m := range n + 1 {
			old := digest.Root(l[:m])
			p := extensionOf(t, l, m)
			for a := -2; a < 20; a++ {
				wantExtension(t, a == m || a > m && m > 0 && verifyExtension(old, a, root, n, p), old, a, root, n, p)
				for b := -2; b < 30; b++ {
					wantExtension(t, 0 <= a && a <= b && verifyExtension(old, a, root, b, p), old, a, root, b, p)
				}
			}
		}
	}
}

// P2.1: no entries are the beginning of every list, whatever its size and its digest; all entries are the beginning of their own list.
func TestVerifyExtensionEnds(t *testing.T) {
	none, some := digest.Root(nil), digest.Leaf("some")
	for _, n := range extremes() {
		wantExtension(t, n >= 0, none, 0, some, n, nil)
		wantExtension(t, n >= 0, none, 0, none, n, []string{})
		wantExtension(t, false, some, 0, some, n, nil)
		wantExtension(t, false, some, 0, none, n, nil)
		wantExtension(t, false, none, 0, some, n, []string{some})
		wantExtension(t, false, none, 0, some[:31], n, nil)
		wantExtension(t, n > 0, some, n, some, n, nil)
		wantExtension(t, n >= 0, none, n, none, n, nil)
		wantExtension(t, false, some, n, none, n, nil)
		wantExtension(t, false, some, n, some, n, []string{some})
		wantExtension(t, false, some[:31], n, some[:31], n, nil)
	}
}

// P2.1: all numbers, with proofs of all lengths; exactly one length is accepted, and the digests that it leads to.
func TestVerifyExtensionExtremes(t *testing.T) {
	r := rand.New(rand.NewSource(4))
	proof := make([]string, 68)
	for i := range proof {
		proof[i] = randomString(r, 32)
	}
	first := randomString(r, 32)
	for _, n := range extremes() {
		for _, m := range append(extremes(), n-1, n/2, n-n/3) {
			accepted := 0
			inside := m > 0 && m < n
			for k := range proof {
				a, b, ok := first, first, false
				if inside {
					a, b, ok = values(first, m, n, proof[:k])
				}
				if !ok { // any digests do
					a, b = proof[0], proof[1]
				}
				wantExtension(t, ok, a, m, b, n, proof[:k])
				wantExtension(t, false, a, m, digest.Leaf("t"), n, proof[:k:k])
				if ok {
					accepted++
				}
			}
			if (accepted == 1) != inside {
				t.Errorf("%d lengths are accepted for %d, %d", accepted, m, n)
			}
		}
	}
}

// P2.1: a proof that is far too long is refused.
func TestVerifyExtensionLong(t *testing.T) {
	d := digest.Leaf("")
	long := slices.Repeat([]string{d}, 100000)
	for _, m := range []int{0, 1, 2, 3, math.MaxInt - 1, math.MaxInt} {
		wantExtension(t, false, d, m, d, math.MaxInt, long)
	}
}

// P2.4: of all digests of a tree and of its beginnings, with all proofs that are made of these, only the root of the first m entries is accepted as old.
func TestVerifyExtensionBinding(t *testing.T) {
	for n := 1; n < 6; n++ {
		l := entries(n)
		root := digest.Root(l)
		parts := slices.Concat(levels(l)...)
		olds := parts
		for m := range n {
			olds = append(olds[:len(olds):len(olds)], digest.Root(l[:m]))
		}
		proofs := [][]string{nil}
		for k := 0; k < len(proofs); k++ {
			p := proofs[k]
			for m := range n + 1 {
				for _, old := range olds {
					if digest.VerifyExtension(old, m, root, n, p) && old != digest.Root(l[:m]) {
						t.Fatalf("%x is accepted as the root of %d of %d entries", old, m, n)
					}
				}
			}
			for _, d := range parts {
				if len(p) < 4 && n < 4 || len(p) < 3 {
					proofs = append(proofs, append(p[:len(p):len(p)], d))
				}
			}
		}
	}
}
