package sparse_test

import (
	"math/rand"
	"slices"
	"strings"
	"testing"

	"clearway/api"
	"clearway/sparse"
)

// wantShown fails the test unless Read of the opening of l at the keys, with the root of l, returns exactly what l has there, and where it has nothing.
func wantShown(t *testing.T, l []api.Entry, keys []int) {
	t.Helper()
	m := mapOf(l)
	var there []api.Entry
	var absent []int
	for _, k := range keys {
		if s, ok := m[k]; ok {
			there = append(there, api.Entry{Key: k, Value: s})
		} else {
			absent = append(absent, k)
		}
	}
	a, b, ok := sparse.Read(root(t, l), prove(t, l, keys...))
	if !ok || !slices.Equal(a, there) || !slices.Equal(b, absent) {
		t.Errorf("%.100v at %v: %.100v, %v, %v", l, keys, a, b, ok)
	}
}

// P4.2: Read returns what the map has at the keys, and where it has nothing.
func TestCompleteness(t *testing.T) {
	for _, l := range [][]api.Entry{nil, some(), full(), full()[:31], full()[33:]} {
		wantShown(t, l, nil)
		for k := range 64 {
			wantShown(t, l, []int{k})
			wantShown(t, l, numbers(0, k))
			wantShown(t, l, numbers(k, 63))
		}
	}
	r := rand.New(rand.NewSource(6))
	for range 1000 {
		wantShown(t, randomMap(r), randomKeys(r))
	}
	wantShown(t, []api.Entry{{Key: 0, Value: strings.Repeat("a", 65536)}, {Key: 63, Value: strings.Repeat("z", 65536)}}, []int{0, 1, 63})
}

// truthful reports whether o shows only what the map l has at its keys.
func truthful(l []api.Entry, o api.Opening) bool {
	m := mapOf(l)
	for i, k := range o.Keys {
		if o.Values[i] != m[k] {
			return false
		}
	}
	return true
}

// P4.3: of all openings at one key that are made of digests of the tree and of a few values, Read accepts the one that Prove returns, and no other one.
func TestBindingSearch(t *testing.T) {
	l := []api.Entry{{Key: 4, Value: "a"}, {Key: 5, Value: "b"}, {Key: 63, Value: "a"}}
	for _, k := range []int{4, 5, 63} {
		honest := prove(t, l, k)
		parts := []string{empty, leafOf(4, "a"), leafOf(5, "b")}
		for _, s := range honest.Path {
			if !slices.Contains(parts, s) {
				parts = append(parts, s)
			}
		}
		wantOnly(t, root(t, l), honest, parts)
	}
}

// wantOnly fails the test if Read accepts an opening at the key of honest that is made of the parts and of a few values, and is not honest; or if it refuses that one.
func wantOnly(t *testing.T, r string, honest api.Opening, parts []string) {
	t.Helper()
	accepted := 0
	for _, s := range []string{"", "a", "b", "\x09" + empty + empty, leafOf(4, "a")} {
		o := api.Opening{Keys: honest.Keys, Values: []string{s}, Path: make([]string, 6)}
		var try func(i int)
		try = func(i int) {
			if i < len(o.Path) {
				for _, x := range parts {
					o.Path[i] = x
					try(i + 1)
				}
				return
			}
			if _, _, ok := sparse.Read(r, o); ok {
				accepted++
				if !same(o, honest) {
					t.Errorf("%s is accepted", text(o))
				}
			}
		}
		try(0)
	}
	if accepted != 1 {
		t.Errorf("%d are accepted at %v", accepted, honest.Keys)
	}
}

// P4.3: openings with other values, keys and digests, of many maps: what is accepted is true.
func TestBindingForged(t *testing.T) {
	r := rand.New(rand.NewSource(7))
	for range 400 {
		l := randomMap(r)
		rt := root(t, l)
		o := prove(t, l, randomKeys(r)...)
		other := randomMap(r)
		for _, p := range []api.Opening{stirred(r, o), openingOf(other, o.Keys), {Keys: o.Keys, Values: openingOf(other, o.Keys).Values, Path: o.Path}, {Keys: randomKeys(r), Values: o.Values, Path: o.Path}} {
			if _, _, ok := sparse.Read(rt, p); ok && !truthful(l, p) {
				t.Fatalf("%s is accepted for %.300v", text(p), l)
			}
		}
		for i := range o.Keys {
			p := cloned(o)
			for _, s := range []string{"", o.Values[i] + "\x00", "\x00" + o.Values[i], randomValue(r)} {
				p.Values[i] = s
				if _, _, ok := sparse.Read(rt, p); ok != (s == o.Values[i]) {
					t.Fatalf("%q at %d is read as %v", s, o.Keys[i], ok)
				}
			}
		}
	}
}

// P4.3: an entry cannot be shown at another key, nor be hidden in a closed part, nor can a part be shown as a value.
func TestBindingMoved(t *testing.T) {
	l := some()
	r := root(t, l)
	for k := range 64 {
		o := prove(t, l, k)
		for _, s := range []string{"x", "a", "zz", "\x09" + empty + empty, "\x09" + leafOf(0, "x") + empty, "\x08\x00x", "\x00x", leafOf(0, "x")} {
			p := cloned(o)
			p.Values[0] = s
			if _, _, ok := sparse.Read(r, p); ok != (s == mapOf(l)[k]) {
				t.Errorf("%q at %d is read as %v", s, k, ok)
			}
		}
		for other := range 64 {
			p := cloned(o)
			p.Keys[0] = other
			if _, _, ok := sparse.Read(r, p); ok && !truthful(l, p) {
				t.Errorf("the opening at %d is accepted at %d", k, other)
			}
		}
	}
}

// P4.3: different maps have different roots: all maps with two values at seven keys, and some with values that look like keys, marks and digests.
func TestBindingRoots(t *testing.T) {
	seen := map[string][]api.Entry{}
	differ := func(l []api.Entry) {
		r := root(t, l)
		if m, ok := seen[r]; ok && !slices.Equal(l, m) {
			t.Errorf("%v and %v have the root %x", l, m, r)
		}
		seen[r] = l
	}
	keys := []int{0, 1, 2, 5, 31, 32, 63}
	for n := range 2187 {
		var l []api.Entry
		for _, k := range keys {
			if n%3 > 0 {
				l = append(l, api.Entry{Key: k, Value: []string{"a", "b"}[n%3-1]})
			}
			n /= 3
		}
		differ(l)
	}
	if len(seen) != 2187 {
		t.Errorf("%d roots", len(seen))
	}
	odd := []string{"\x00", "\x02", "\x00\x00", "\x0a", "\x08", "\x09", empty, "\x09" + empty + empty, empty + empty, "\x08\x02a", "\x02a", leafOf(0, "a")}
	for k := range 64 {
		for _, s := range odd {
			differ([]api.Entry{{Key: k, Value: s}})
			differ([]api.Entry{{Key: k, Value: s}, {Key: 63 - k, Value: s}}[:1+(63-k)/32])
		}
	}
}

// update returns what Update returns, which must accept the changes.
func update(t *testing.T, r string, o api.Opening, changes ...api.Entry) string {
	t.Helper()
	next, ok := sparse.Update(r, o, changes)
	if !ok {
		t.Fatalf("the changes %.100v of %s are refused", changes, text(o))
	}
	return next
}

// with returns o with the values of the changes.
func with(o api.Opening, changes []api.Entry) api.Opening {
	o = cloned(o)
	for _, c := range changes {
		o.Values[slices.Index(o.Keys, c.Key)] = c.Value
	}
	return o
}

// P4.4: Update returns the root of the changed map; the opening with the new values is that of the changed map; and what is taken back leads back.
func TestUpdates(t *testing.T) {
	r := rand.New(rand.NewSource(8))
	for range 1500 {
		l := randomMap(r)
		o := prove(t, l, randomKeys(r)...)
		before := root(t, l)
		c := randomChanges(r, l, o.Keys)
		next := changed(l, c)
		after := update(t, before, o, c...)
		if after != root(t, next) {
			t.Fatalf("%.100v of %.100v: %x", c, l, after)
		}
		p := prove(t, next, o.Keys...)
		if !same(p, with(o, c)) {
			t.Fatalf("%s becomes %s", text(o), text(p))
		}
		var back, kept []api.Entry
		for i, k := range o.Keys {
			kept = append(kept, api.Entry{Key: k, Value: o.Values[i]})
			if _, ok := slices.BinarySearch(keysOf(c), k); ok {
				back = append(back, kept[i])
			}
		}
		if update(t, after, p, back...) != before || update(t, after, p, kept...) != before {
			t.Fatalf("%.100v of %.100v is not taken back", c, l)
		}
		if update(t, before, o, kept...) != before || update(t, before, o, back...) != before {
			t.Fatalf("the values that are there change the root of %.100v", l)
		}
	}
}

// P4.4: updates of different keys may be done in either order, or at once, with one opening or with one for each.
func TestUpdatesOrder(t *testing.T) {
	r := rand.New(rand.NewSource(9))
	for range 1500 {
		l := randomMap(r)
		before := root(t, l)
		o := prove(t, l, randomKeys(r)...)
		all := randomChanges(r, l, o.Keys)
		var a, b []api.Entry
		for _, c := range all {
			if r.Intn(2) == 0 {
				a = append(a, c)
			} else {
				b = append(b, c)
			}
		}
		once := update(t, before, o, all...)
		one := update(t, update(t, before, o, a...), with(o, a), b...)
		two := update(t, update(t, before, o, b...), with(o, b), a...)
		own := update(t, update(t, before, prove(t, l, keysOf(a)...), a...), prove(t, changed(l, a), keysOf(b)...), b...)
		if one != once || two != once || own != once {
			t.Fatalf("%.100v and %.100v: %x, %x, %x, %x", a, b, once, one, two, own)
		}
	}
}

// P4.4: a map that is built entry by entry, and removed in another order, has the right root at each step.
func TestUpdatesHistory(t *testing.T) {
	r := rand.New(rand.NewSource(10))
	var l []api.Entry
	at := empty
	step := func(k int, s string) {
		c := api.Entry{Key: k, Value: s}
		at = update(t, at, prove(t, l, k), c)
		l = changed(l, []api.Entry{c})
		if at != root(t, l) {
			t.Fatalf("after %v: %x", c, at)
		}
	}
	for _, k := range r.Perm(64) {
		step(k, randomValue(r))
	}
	for _, k := range r.Perm(64) {
		step(k, "")
	}
	if at != empty || len(l) != 0 {
		t.Errorf("%x, %d entries", at, len(l))
	}
}

// P4.5: an opening at k keys has at most 6 * k digests, one at one key exactly 6, and one at all keys none.
func TestPathLength(t *testing.T) {
	for a := range 64 {
		if n := len(prove(t, some(), a).Path); n != 6 {
			t.Errorf("%d digests at %d", n, a)
		}
		for b := range a {
			if n := len(prove(t, some(), b, a).Path); n > 10 || n < 5 {
				t.Errorf("%d digests at %d and %d", n, b, a)
			}
		}
	}
	if n := len(prove(t, some(), numbers(0, 63)...).Path); n != 0 {
		t.Errorf("%d digests at all keys", n)
	}
	r := rand.New(rand.NewSource(11))
	for range 1000 {
		keys := randomKeys(r)
		if n := len(prove(t, some(), keys...).Path); n > 6*max(1, len(keys)) {
			t.Errorf("%d digests at %v", n, keys)
		}
	}
}

// narrowed computes the opening at some of the keys of o, from o alone.
func narrowed(o api.Opening, keys []int) api.Opening {
	m, path := shape(o)
	p := api.Opening{Keys: keys}
	for _, k := range keys {
		p.Values = append(p.Values, m[k])
	}
	for _, q := range closedAt(keys) {
		p.Path = append(p.Path, q.digestOf(m, path))
	}
	return p
}

// P4.5: an opening at fewer keys can be computed from one at more of them.
func TestNarrowed(t *testing.T) {
	r := rand.New(rand.NewSource(12))
	for range 1000 {
		l := randomMap(r)
		o := prove(t, l, randomKeys(r)...)
		var keys []int
		for _, k := range o.Keys {
			if r.Intn(2) == 0 {
				keys = append(keys, k)
			}
		}
		for _, fewer := range [][]int{keys, nil, o.Keys} {
			if p := prove(t, l, fewer...); !same(p, narrowed(o, fewer)) {
				t.Fatalf("the opening of %.100v at %v is not that from %v", l, fewer, o.Keys)
			}
		}
	}
}
