package digest_test

import (
	"math/rand"
	"slices"
	"testing"

	"clearway/api"
	"clearway/digest"
)

// P2.1: arbitrary arguments, most of them nearly right, have the results of the reference.
func TestArbitrary(t *testing.T) {
	r := rand.New(rand.NewSource(5))
	for range 5000 {
		n := 1 + r.Intn(24)
		l := entries(n)
		all := levels(l)
		i, m := r.Intn(n), 1+r.Intn(n)
		p, q := proofOf(t, l, i), extensionOf(t, l, m)
		root, old := top(all), digest.Root(l[:m])
		parts := slices.Concat(all...)
		p, q = stirred(r, p, parts), stirred(r, q, parts)
		i, m, n = stir(r, i), stir(r, m), stir(r, n)
		if i >= 0 && i < len(l) {
			wantVerify(t, verify(root, n, i, l[i], p), root, n, i, l[i], p)
		}
		wantExtension(t, verifyExtension(old, m, root, n, q), old, m, root, n, q)
		wantExtension(t, verifyExtension(root, m, old, n, q), root, m, old, n, q)
	}
}

// stir returns n, or a number close to it.
func stir(r *rand.Rand, n int) int {
	if r.Intn(2) == 0 {
		return n
	}
	return n + r.Intn(7) - 3
}

// stirred returns p, often with an element inserted, dropped, or replaced by one of parts.
func stirred(r *rand.Rand, p []string, parts []string) []string {
	i := r.Intn(len(p) + 1)
	d := parts[r.Intn(len(parts))]
	switch k := r.Intn(6); {
	case k == 0:
		return replaced(p, i, i, d)
	case k == 1 && i < len(p):
		return replaced(p, i, i+1)
	case k == 2 && i < len(p):
		return replaced(p, i, i+1, d)
	}
	return p
}

// roomy returns l in a slice with room for more, which is filled.
func roomy(l []string) []string {
	return append(slices.Clone(l), "spare", "spare", "spare")[:len(l)]
}

// whole returns what is in l, and in its spare capacity.
func whole(l []string) []string { return slices.Clone(l[:cap(l)]) }

// R3: arguments are not changed, nor is their spare capacity.
func TestArgumentsUnchanged(t *testing.T) {
	for n := range 18 {
		l := roomy(entries(n))
		before := whole(l)
		root := digest.Root(l)
		for i := range n + 1 {
			q := roomy(extensionOf(t, l, i))
			kept := whole(q)
			wantExtension(t, true, digest.Root(l[:i]), i, root, n, q)
			if !slices.Equal(whole(q), kept) {
				t.Fatalf("VerifyExtension changed its proof, %d of %d", i, n)
			}
			if i == n {
				break
			}
			p := roomy(proofOf(t, l, i))
			kept = whole(p)
			wantVerify(t, true, root, n, i, l[i], p)
			if !slices.Equal(whole(p), kept) {
				t.Fatalf("Verify changed its proof, %d of %d", i, n)
			}
		}
		if !slices.Equal(whole(l), before) {
			t.Fatalf("a list of %d entries was changed", n)
		}
	}
}

// R3 and R4: a result is new memory, and what is done to it, or to the arguments afterwards, changes no other result.
func TestResultsNew(t *testing.T) {
	for n := 1; n < 18; n++ {
		l := entries(n)
		for i := range l {
			p, q := proofOf(t, l, i), extensionOf(t, l, i)
			kept, kept2 := slices.Clone(p), slices.Clone(q)
			again, again2 := proofOf(t, l, i), extensionOf(t, l, i)
			for _, s := range [][]string{again, again2} {
				s = s[:cap(s)]
				for k := range s {
					s[k] = "overwritten"
				}
			}
			if !slices.Equal(l, entries(n)) {
				t.Fatalf("a result shares memory with its list, %d of %d", i, n)
			}
			l[i] = "overwritten"
			if !slices.Equal(p, kept) || !slices.Equal(q, kept2) {
				t.Fatalf("a result shares memory, %d of %d", i, n)
			}
			l[i] = entries(n)[i]
			if !slices.Equal(proofOf(t, l, i), kept) || !slices.Equal(extensionOf(t, l, i), kept2) {
				t.Fatalf("a result depends on earlier ones, %d of %d", i, n)
			}
		}
	}
}

// R4: the results depend on the arguments alone, whatever was called before.
func TestRepeated(t *testing.T) {
	for range 3 {
		if _, e := digest.Proof(nil, 0); e != api.ErrArg {
			t.Errorf("error %d", e)
		}
		if digest.Sum("abc") != hash("abc") || digest.Sum("") != hash() {
			t.Error("Sum")
		}
		wantVerify(t, true, digest.Leaf("a"), 1, 0, "a", nil)
		wantVerify(t, false, digest.Leaf("a"), 1, 0, "b", nil)
	}
}
