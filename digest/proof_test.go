package digest_test

import (
	"fmt"
	"math"
	"math/bits"
	"math/rand"
	"slices"
	"strings"
	"testing"

	"clearway/api"
	"clearway/digest"
)

// P2.1: the roots of the test lists of Certificate Transparency, whose trees are the same.
func TestRootKnown(t *testing.T) {
	l := []string{"", "\x00", "\x10", "\x20\x21", "\x30\x31", "\x40\x41\x42\x43", "\x50\x51\x52\x53\x54\x55\x56\x57", "\x60\x61\x62\x63\x64\x65\x66\x67\x68\x69\x6a\x6b\x6c\x6d\x6e\x6f"}
	for n, want := range []string{
		"e3b0c44298fc1c149afbf4c8996fb92427ae41e4649b934ca495991b7852b855",
		"6e340b9cffb37a989ca544e6bb780a2c78901d3fb33738768511a30617afa01d",
		"fac54203e7cc696cf0dfcb42c92a1d9dbaf70ad9e621f4bd8d98662f00e3c125",
		"aeb6bcfe274b70a14fb067a5e5578264db0fa9b51af5e0ba159158f329e06e77",
		"d37ee418976dd95753c1c73862b9398fa2a2cf9b4ff0fdfe8b30cd95209614b7",
		"4e3bbb1f7b478dcfe71fb631631519a3bca12c9aefca1612bfce4c13a86264d4",
		"76e67dadbcdf1e10e1b74ddc608abd2f98dfb16fbce75277b5232a127f2087ef",
		"ddb89be403809e325750d3d263cd78929c2942b7942a34b77e122c9594a74c8c",
		"5dc9da79a70659a9ad559cb701ded9a2ab9d823aad2f4960cfe370eff4604328",
	} {
		if d := fmt.Sprintf("%x", digest.Root(l[:n])); d != want {
			t.Errorf("Root of %d entries = %s, want %s", n, d, want)
		}
	}
}

// P2.1: the roots of lists of all sizes, also with entries that are equal, empty, or long.
func TestRootAll(t *testing.T) {
	for _, n := range append(sizes(), 1023, 1024, 1025) {
		for _, l := range [][]string{entries(n), make([]string, n), slices.Repeat([]string{strings.Repeat("x", 1000)}, n)} {
			if d := digest.Root(l); d != top(levels(l)) {
				t.Errorf("Root of %d entries = %x", n, d)
			}
		}
	}
	if digest.Root([]string{}) != digest.Sum("") {
		t.Error("Root of an empty list")
	}
}

// The chapter's example.
func TestProofExample(t *testing.T) {
	p := proofOf(t, []string{"a", "b", "c"}, 2)
	if !slices.Equal(p, []string{digest.Node(digest.Leaf("a"), digest.Leaf("b"))}) {
		t.Errorf("proof %x", p)
	}
}

// P2.1 and P2.2: the proof of every entry is the one that is defined, is accepted for this entry and no other one, and is short.
func TestProofAll(t *testing.T) {
	for _, n := range sizes() {
		l := entries(n)
		all := levels(l)
		root := digest.Root(l)
		for i := range l {
			p := proofOf(t, l, i)
			if !slices.Equal(p, path(all, i)) {
				t.Fatalf("Proof of %d entries, %d = %x, want %x", n, i, p, path(all, i))
			}
			if len(p) > bits.Len(uint(n)) {
				t.Errorf("Proof of %d entries, %d has %d elements", n, i, len(p))
			}
			for _, k := range others(n, i) {
				wantVerify(t, k == i, root, n, i, l[k], p)
			}
		}
	}
}

// P2.2: the same for lists with entries that are equal, or look like parts of a tree.
func TestProofOddLists(t *testing.T) {
	a, b := digest.Leaf("a"), digest.Leaf("b")
	for _, l := range [][]string{make([]string, 13), {"a", "a", "b", "a", "b"}, {"a", "b", a + b, "\x01" + a + b, "\x00a", a, digest.Node(a, b)}} {
		for n := range len(l) + 1 {
			for i := range n {
				p := proofOf(t, l[:n], i)
				for _, s := range l {
					wantVerify(t, s == l[i], digest.Root(l[:n]), n, i, s, p)
				}
			}
		}
	}
}

// P2.1: indexes of no entries.
func TestProofRefused(t *testing.T) {
	for _, n := range sizes() {
		for _, i := range []int{-1, n, -2, n + 1, -n - 1, 2 * n, math.MaxInt, math.MinInt, api.MaxInt, -api.MaxInt} {
			if i == 0 && n > 0 {
				continue
			}
			if p, e := digest.Proof(entries(n), i); len(p) != 0 || e != api.ErrArg {
				t.Errorf("Proof of %d entries, %d = %x, %d; want ErrArg", n, i, p, e)
			}
		}
	}
	if p, e := digest.Proof(nil, 0); len(p) != 0 || e != api.ErrArg {
		t.Errorf("Proof of no entries = %x, %d", p, e)
	}
}

// P2.1: proofs with an element too many, too few, or another one; other entries, indexes and roots.
func TestVerifyDamaged(t *testing.T) {
	for n := 1; n < 20; n++ {
		l := entries(n)
		root := digest.Root(l)
		for i, s := range l {
			p := proofOf(t, l, i)
			for _, q := range damaged(p) {
				wantVerify(t, false, root, n, i, s, q)
			}
			for _, u := range []string{s + "x", "\x00" + s, digest.Leaf(s), root} {
				wantVerify(t, false, root, n, i, u, p)
			}
			for _, other := range append(noDigests(root), flipped(root, 0), flipped(root, 255), digest.Leaf(s+"x"), digest.Root(l[:n-1])) {
				wantVerify(t, false, other, n, i, s, p)
			}
			for k := -2; k < n+3; k++ {
				wantVerify(t, k == i, root, n, k, s, p)
			}
		}
	}
}

// P2.1: an element that is no digest is refused even if it leads to the root.
func TestVerifyNoDigests(t *testing.T) {
	for n := 2; n < 20; n++ {
		l := entries(n)
		for i, s := range l {
			p := proofOf(t, l, i)
			for k := range p {
				for _, x := range noDigests(p[k]) {
					q := replaced(p, k, k+1, x)
					root, ok := value(n, i, s, q)
					if !ok {
						t.Fatalf("no value of %d, %d and %x", n, i, q)
					}
					wantVerify(t, false, root, n, i, s, q)
				}
			}
		}
	}
}

// P2.1: for another number of entries a proof is accepted exactly if its value is the same, which is the case if the way to the entry is.
func TestVerifyNumbers(t *testing.T) {
	for n := 1; n < 20; n++ {
		l := entries(n)
		for i, s := range l {
			p := proofOf(t, l, i)
			for m := -2; m < 40; m++ {
				wantVerify(t, verify(digest.Root(l), m, i, s, p), digest.Root(l), m, i, s, p)
			}
		}
	}
	l := entries(3)
	wantVerify(t, true, digest.Root(l), 4, 0, "", proofOf(t, l, 0))
	wantVerify(t, false, digest.Root(l), 4, 2, l[2], proofOf(t, l, 2))
	wantVerify(t, false, digest.Root(l), 2, 0, "", proofOf(t, l, 0))
	wantVerify(t, false, digest.Root(l), 5, 0, "", proofOf(t, l, 0))
}

// extremes returns numbers at the edges, up to the greatest and the least ones.
func extremes() []int {
	l := []int{math.MinInt, math.MinInt + 1, -api.MaxInt, math.MaxInt}
	for n := -2; n < 6; n++ {
		l = append(l, n)
	}
	return append(l, 1<<31-1, 1<<31, 1<<31+1, 1<<62-1, 1<<62, 1<<62+1, math.MaxInt-1)
}

// P2.1: all numbers and indexes, with proofs of all lengths; exactly one length is accepted, and the root that it leads to.
func TestVerifyExtremes(t *testing.T) {
	r := rand.New(rand.NewSource(3))
	proof := make([]string, 66)
	for i := range proof {
		proof[i] = randomString(r, 32)
	}
	for _, n := range extremes() {
		for _, i := range append(extremes(), n-1, n/2, n-n/3) {
			accepted := 0
			for k := range proof {
				v, _ := value(math.MaxInt, 0, "s", proof[:k]) // what would be the root if n - 1 were computed with 64 bits
				ok := i >= 0 && i < n
				if ok {
					v, ok = value(n, i, "s", proof[:k])
				}
				wantVerify(t, ok, v, n, i, "s", proof[:k])
				wantVerify(t, false, digest.Leaf("t"), n, i, "s", proof[:k])
				if ok {
					accepted++
				}
			}
			if (accepted == 1) != (i >= 0 && i < n) {
				t.Errorf("%d lengths are accepted for %d, %d", accepted, n, i)
			}
		}
	}
}

// P2.1: a proof that is far too long is refused.
func TestVerifyLong(t *testing.T) {
	long := slices.Repeat([]string{digest.Leaf("")}, 100000)
	wantVerify(t, false, digest.Leaf(""), 1, 0, "", long)
	wantVerify(t, false, digest.Leaf(""), math.MaxInt, 0, "", long)
	wantVerify(t, false, digest.Leaf(""), math.MaxInt, math.MaxInt-1, "", long)
}

// P2.3: of all entries, with all proofs that are made of digests of the tree, only the entry that is there is accepted.
func TestVerifyBinding(t *testing.T) {
	for n := 1; n < 5; n++ {
		l := entries(n)
		parts := slices.Concat(levels(l)...)
		candidates := slices.Concat(l, parts, []string{"other"})
		for _, a := range parts {
			for _, b := range parts {
				candidates = append(candidates, a+b, "\x01"+a+b)
			}
		}
		proofs := [][]string{nil}
		for k := 0; k < len(proofs); k++ {
			p := proofs[k]
			for i := range l {
				for _, s := range candidates {
					if digest.Verify(digest.Root(l), n, i, s, p) && s != l[i] {
						t.Fatalf("%q is accepted at %d of %d", s, i, n)
					}
				}
			}
			for _, d := range parts {
				if len(p) < bits.Len(uint(n-1)) {
					proofs = append(proofs, append(p[:len(p):len(p)], d))
				}
			}
		}
	}
}
