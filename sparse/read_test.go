package sparse_test

import (
	"math/rand"
	"slices"
	"strings"
	"testing"

	"clearway/api"
)

// openings returns the openings of three maps at keys of many shapes, with their roots.
func openings() ([]string, []api.Opening) {
	var roots []string
	var l []api.Opening
	for _, m := range [][]api.Entry{nil, some(), full()} {
		for _, keys := range [][]int{nil, {0}, {5}, {63}, {4, 5}, {0, 63}, {1, 2}, {0, 5, 63}, numbers(0, 31), numbers(32, 63), numbers(3, 60), numbers(0, 63)} {
			roots = append(roots, whole.digestIn(mapOf(m)))
			l = append(l, openingOf(m, keys))
		}
	}
	return roots, l
}

// refused fails the test if Read or Update accepts o for the root r.
func refused(t *testing.T, r string, o api.Opening) {
	t.Helper()
	if wantRead(t, r, o) {
		t.Errorf("%s is accepted for %x", text(o), r)
	}
	if _, ok := wantUpdate(t, r, o, nil); ok {
		t.Errorf("%s is updated for %x", text(o), r)
	}
}

// P4.1: what is formed is accepted for the root for which it stands, and for no other one.
func TestReadRoots(t *testing.T) {
	roots, l := openings()
	for i, o := range l {
		r := roots[i]
		if !wantRead(t, r, o) {
			t.Errorf("%s is refused", text(o))
		}
		flipped := string(r[0]^1) + r[1:]
		for _, other := range []string{"", r[:31], r + "\x00", "\x00" + r, r + r, flipped, r[:31] + string([]byte{r[31] ^ 128}), leafOf(5, "a"), hash("")} {
			refused(t, other, o)
		}
		for _, other := range roots {
			if other != r {
				refused(t, other, o)
			}
		}
	}
}

// P4.1: any digest is the root for which an opening at no keys stands that has it as its path, also if there is no such map.
func TestReadNoKeys(t *testing.T) {
	for _, r := range []string{empty, hash("any"), strings.Repeat("\xff", 32)} {
		if !wantRead(t, r, api.Opening{Path: []string{r}}) || !wantRead(t, r, api.Opening{Keys: []int{}, Values: []string{}, Path: []string{r}}) {
			t.Errorf("%x is refused", r)
		}
		refused(t, r, api.Opening{Path: []string{r, r}})
		refused(t, r, api.Opening{Values: []string{""}, Path: []string{r}})
		refused(t, r, api.Opening{})
		refused(t, "", api.Opening{})
		refused(t, empty, api.Opening{})
		for _, s := range []string{"", r[:31], r + "\x00", r + r} {
			refused(t, s, api.Opening{Path: []string{s}})
			refused(t, r, api.Opening{Path: []string{s}})
		}
	}
}

// P4.1: openings that stand for roots of no map, with any digests in their path.
func TestReadAnyPath(t *testing.T) {
	r := rand.New(rand.NewSource(3))
	for range 500 {
		o := openingOf(randomMap(r), randomKeys(r))
		for i := range o.Path {
			o.Path[i] = []string{empty, hash("a"), hash("b"), o.Path[i]}[r.Intn(4)]
		}
		if !wantRead(t, rootOf(o), o) {
			t.Fatalf("%s is refused", text(o))
		}
	}
}

// P4.1: keys that are not ascending are refused, even if the same values and digests in order lead to the root.
func TestReadKeys(t *testing.T) {
	r := whole.digestIn(mapOf(some()))
	o := openingOf(some(), []int{4, 5})
	refused(t, r, api.Opening{Keys: []int{5, 4}, Values: []string{"a", ""}, Path: o.Path})
	refused(t, r, api.Opening{Keys: []int{4, 4, 5}, Values: []string{"", "", "a"}, Path: o.Path})
	refused(t, r, api.Opening{Keys: []int{4, 5, 5}, Values: []string{"", "a", "a"}, Path: o.Path})
	five := openingOf(some(), []int{5})
	refused(t, r, api.Opening{Keys: []int{5, 5}, Values: []string{"a", "a"}, Path: five.Path})
	refused(t, r, api.Opening{Keys: []int{5, 5}, Values: []string{"", "a"}, Path: five.Path})
	roots, l := openings()
	for i, o := range l {
		for _, k := range noKeys() {
			for j := range o.Keys {
				p := cloned(o)
				p.Keys[j] = k
				refused(t, roots[i], p)
			}
			p := cloned(o)
			p.Keys, p.Values = append(p.Keys, k), append(p.Values, "a")
			refused(t, roots[i], p)
			p.Values[len(p.Values)-1] = ""
			refused(t, roots[i], p)
		}
	}
}

// P4.1: there must be as many values as keys, and a digest for each closed part; more are refused as well as fewer.
func TestReadCounts(t *testing.T) {
	roots, l := openings()
	for i, o := range l {
		for _, s := range []string{"", "a"} {
			p := cloned(o)
			p.Values = append(p.Values, s)
			refused(t, roots[i], p)
		}
		for _, s := range []string{"", empty, hash("a"), roots[i]} {
			p := cloned(o)
			p.Path = append(p.Path, s)
			refused(t, roots[i], p)
			p.Path = append([]string{s}, o.Path...)
			refused(t, roots[i], p)
		}
		for j := range o.Keys {
			p := cloned(o)
			p.Values = p.Values[:j]
			refused(t, roots[i], p)
			p = cloned(o)
			p.Keys = slices.Delete(p.Keys, j, j+1)
			refused(t, roots[i], p)
		}
		for j := range o.Path {
			p := cloned(o)
			p.Path = p.Path[:j]
			refused(t, roots[i], p)
			p.Path = slices.Delete(slices.Clone(o.Path), j, j+1)
			refused(t, roots[i], p)
		}
		refused(t, roots[i], api.Opening{Keys: o.Keys, Values: o.Values, Path: make([]string, 100000)})
		refused(t, roots[i], api.Opening{Keys: o.Keys, Values: make([]string, 100000), Path: o.Path})
		refused(t, roots[i], api.Opening{Keys: make([]int, 100000), Values: o.Values, Path: o.Path})
	}
}

// P4.1: an element of the path that has not the size of a digest is refused, even if it leads to the root.
func TestReadNoDigests(t *testing.T) {
	_, l := openings()
	for _, o := range l {
		for j, s := range o.Path {
			for _, x := range []string{"", s[:31], s[1:], s + "\x00", "\x00" + s, s + s} {
				p := cloned(o)
				p.Path[j] = x
				refused(t, rootOf(p), p)
			}
		}
	}
}

// P4.1: values of up to 65536 bytes are accepted, longer ones are not, even if they lead to the root.
func TestReadLong(t *testing.T) {
	for _, keys := range [][]int{{5}, {4, 5}, {0, 5, 63}} {
		for i := range keys {
			o := openingOf(some(), keys)
			o.Values[i] = strings.Repeat("a", 65536)
			if !wantRead(t, rootOf(o), o) {
				t.Errorf("a value of 65536 bytes is refused")
			}
			o.Values[i] += "a"
			refused(t, rootOf(o), o)
		}
	}
}

// P4.1: arbitrary openings, most of them nearly right, have the results of the reference.
func TestReadArbitrary(t *testing.T) {
	r := rand.New(rand.NewSource(4))
	accepted := 0
	for range 4000 {
		l := randomMap(r)
		rt := whole.digestIn(mapOf(l))
		o := stirred(r, openingOf(l, randomKeys(r)))
		if wantRead(t, rt, o) {
			accepted++
		}
		wantUpdate(t, rt, o, randomChanges(r, l, o.Keys))
		if isFormed(o) {
			wantRead(t, rootOf(o), o)
			wantUpdate(t, rootOf(o), o, randomChanges(r, l, randomKeys(r)))
		}
	}
	if accepted < 400 || accepted > 3600 {
		t.Errorf("%d are accepted", accepted)
	}
}

// stirred returns a copy of o, often with an element inserted, dropped, or replaced.
func stirred(r *rand.Rand, o api.Opening) api.Opening {
	o = cloned(o)
	for range r.Intn(3) {
		switch r.Intn(6) {
		case 0:
			o.Keys = stir(r, o.Keys, r.Intn(70)-3)
		case 1:
			o.Values = stir(r, o.Values, randomValue(r))
		case 2:
			o.Path = stir(r, o.Path, []string{empty, hash("a"), "", empty[1:]}[r.Intn(4)])
		case 3:
			if i := r.Intn(len(o.Path) + 1); i+1 < len(o.Path) {
				o.Path[i], o.Path[i+1] = o.Path[i+1], o.Path[i]
			}
		case 4:
			if len(o.Values) > 0 {
				o.Values[r.Intn(len(o.Values))] = ""
			}
		}
	}
	return o
}

// stir returns l with x inserted, or an element dropped, or replaced by x.
func stir[T any](r *rand.Rand, l []T, x T) []T {
	i := r.Intn(len(l) + 1)
	switch k := r.Intn(3); {
	case k == 0 && i < len(l):
		return slices.Delete(l, i, i+1)
	case k == 1 && i < len(l):
		l[i] = x
		return l
	}
	return slices.Insert(l, i, x)
}
