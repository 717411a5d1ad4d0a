package sparse_test

import (
	"math/rand"
	"slices"
	"strings"
	"testing"

	"clearway/api"
)

// P4.1: an entry is added, replaced, left as it is, and removed, at every key, whether or not others are opened.
func TestUpdateEach(t *testing.T) {
	for _, l := range [][]api.Entry{nil, some(), full()} {
		r := whole.digestIn(mapOf(l))
		for k := range 64 {
			for _, keys := range [][]int{{k}, numbers(0, k), numbers(k, 63)} {
				o := openingOf(l, keys)
				for _, s := range []string{"", "n", mapOf(l)[k], strings.Repeat("x", 200)} {
					c := []api.Entry{{Key: k, Value: s}}
					if next, ok := wantUpdate(t, r, o, c); !ok || next != whole.digestIn(mapOf(changed(l, c))) {
						t.Errorf("Update at %d with %q: %x, %v", k, s, next, ok)
					}
				}
			}
		}
	}
}

// P4.1: no changes lead to the same root, also that of an opening at no keys.
func TestUpdateNone(t *testing.T) {
	roots, l := openings()
	for i, o := range l {
		for _, none := range [][]api.Entry{nil, {}} {
			if next, ok := wantUpdate(t, roots[i], o, none); !ok || next != roots[i] {
				t.Errorf("no changes of %s: %x, %v", text(o), next, ok)
			}
		}
	}
	r := hash("any")
	if next, ok := wantUpdate(t, r, api.Opening{Path: []string{r}}, nil); !ok || next != r {
		t.Errorf("%x, %v", next, ok)
	}
}

// P4.1: a part all of whose keys are removed is empty again, up to the root.
func TestUpdateRemove(t *testing.T) {
	for _, l := range [][]api.Entry{some(), full(), some()[1:2]} {
		keys := keysOf(l)
		o := openingOf(l, keys)
		var c []api.Entry
		for _, k := range keys {
			c = append(c, api.Entry{Key: k})
			if next, ok := wantUpdate(t, whole.digestIn(mapOf(l)), o, c); !ok || next != whole.digestIn(mapOf(changed(l, c))) {
				t.Errorf("%v: %x, %v", c, next, ok)
			}
		}
		if next, _ := wantUpdate(t, whole.digestIn(mapOf(l)), o, c); next != empty {
			t.Errorf("all %d entries are removed: %x", len(l), next)
		}
	}
}

// noUpdate fails the test if Update accepts the changes of the opening of some() at 4 and 5.
func noUpdate(t *testing.T, changes ...api.Entry) {
	t.Helper()
	if next, ok := wantUpdate(t, whole.digestIn(mapOf(some())), openingOf(some(), []int{4, 5}), changes); ok {
		t.Errorf("%.100v are accepted: %x", changes, next)
	}
}

// P4.1: changes of keys that are not opened, or no keys, that are not ascending, or too long; one of them is enough, wherever it stands.
func TestUpdateRefused(t *testing.T) {
	four, five := api.Entry{Key: 4, Value: "n"}, api.Entry{Key: 5, Value: "m"}
	for _, k := range append(noKeys(), 0, 1, 3, 6, 7, 63, 36, 37, 68, 69) {
		for _, s := range []string{"a", "", "zz"} {
			bad := api.Entry{Key: k, Value: s}
			noUpdate(t, bad)
			noUpdate(t, bad, four, five)
			noUpdate(t, four, bad, five)
			noUpdate(t, four, five, bad)
		}
	}
	noUpdate(t, five, four)
	noUpdate(t, four, four)
	noUpdate(t, five, five)
	noUpdate(t, four, five, five)
	noUpdate(t, four, five, four)
	noUpdate(t, make([]api.Entry, 100000)...)
	long := strings.Repeat("a", 65537)
	noUpdate(t, api.Entry{Key: 4, Value: long})
	noUpdate(t, api.Entry{Key: 5, Value: long})
	noUpdate(t, api.Entry{Key: 4, Value: long}, five)
	noUpdate(t, four, api.Entry{Key: 5, Value: long})
	o := openingOf(some(), []int{4, 5})
	if _, ok := wantUpdate(t, rootOf(o), o, []api.Entry{{Key: 4, Value: long[1:]}, {Key: 5, Value: long[1:]}}); !ok {
		t.Error("values of 65536 bytes are refused")
	}
	none := openingOf(some(), nil)
	if _, ok := wantUpdate(t, rootOf(none), none, []api.Entry{four}); ok {
		t.Error("a change without keys is accepted")
	}
}

// P4.1: what is not formed, or stands for another root, is refused with changes, too, even if these would repair it.
func TestUpdateOpenings(t *testing.T) {
	r := whole.digestIn(mapOf(some()))
	c := []api.Entry{{Key: 4}, {Key: 5, Value: "a"}}
	for i, spoil := range []func(o *api.Opening){
		func(o *api.Opening) { o.Values[1] = "b" },
		func(o *api.Opening) { o.Values[0] = "b" },
		func(o *api.Opening) { o.Values[1] = "" },
		func(o *api.Opening) { o.Values[1] = strings.Repeat("a", 65537) },
		func(o *api.Opening) { o.Path[1] = hash("") },
		func(o *api.Opening) { o.Path[4] = empty },
		func(o *api.Opening) { o.Path = append(o.Path, empty) },
		func(o *api.Opening) { o.Keys, o.Values = append(o.Keys, 5), append(o.Values, "a") },
		func(o *api.Opening) { slices.Reverse(o.Keys); slices.Reverse(o.Values) },
	} {
		o := openingOf(some(), []int{4, 5})
		spoil(&o)
		if _, ok := wantUpdate(t, r, o, c); ok {
			t.Errorf("%d is accepted", i)
		}
	}
	for _, other := range []string{"", empty, r + r, hash(r)} {
		if _, ok := wantUpdate(t, other, openingOf(some(), []int{4, 5}), c); ok {
			t.Errorf("%x is accepted", other)
		}
	}
}

// P4.1: random changes of random openings, some of them with an error.
func TestUpdateArbitrary(t *testing.T) {
	r := rand.New(rand.NewSource(5))
	accepted := 0
	for range 4000 {
		l := randomMap(r)
		o := openingOf(l, randomKeys(r))
		c := randomChanges(r, l, o.Keys)
		if r.Intn(3) == 0 {
			c = stir(r, c, api.Entry{Key: r.Intn(70) - 3, Value: randomValue(r)})
		}
		if _, ok := wantUpdate(t, whole.digestIn(mapOf(l)), o, c); ok {
			accepted++
		}
	}
	if accepted < 1000 || accepted > 3800 {
		t.Errorf("%d are accepted", accepted)
	}
}
