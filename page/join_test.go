package page_test

import (
	"maps"
	"math"
	"math/rand"
	"slices"
	"testing"

	"clearway/api"
	"clearway/graph"
	"clearway/page"
)

// wantJoined fails the test if Join differs from the reference. It returns whether l are entries.
func wantJoined(t *testing.T, l []api.Entry) bool {
	t.Helper()
	want, ok := join(l)
	e := api.OK
	if !ok {
		e = api.ErrPage
	}
	if g, f := page.Join(l); text(g) != text(want) || f != e {
		t.Fatalf("Join(%x) = %+v, %d; want %+v, %d", l, g, f, want, e)
	}
	return ok
}

// P6.2: the entries of a graph lead back to it.
func TestJoin(t *testing.T) {
	for _, g := range samples() {
		l, e := page.Entries(g)
		must(t, e)
		h, e := page.Join(l)
		if e != api.OK || !graph.Same(g, h) {
			t.Fatalf("%+v, then %+v, %d", g, h, e)
		}
		wantJoined(t, l)
	}
}

// P6.1: lists that are no entries, and the entries of the empty graph.
func TestJoinOfOthers(t *testing.T) {
	header := func(l ...int) api.Entry { return api.Entry{Key: 63, Value: code(l...)} }
	at := func(key int, v api.Vertex, l ...api.Edge) api.Entry {
		return api.Entry{Key: key, Value: code(pageNumbers(v, l)...)}
	}
	zero, one := api.Vertex{ID: 0}, api.Vertex{ID: 1}
	x := api.Edge{ID: 0, From: 0, To: 1}
	y := api.Edge{ID: 0, From: 0, To: 1, Weight: 1}
	loop := api.Edge{ID: 0, From: 0, To: 0}
	for i, c := range []struct {
		l  []api.Entry
		ok bool
	}{
		{[]api.Entry{header(0, 0)}, true},
		{nil, false},
		{[]api.Entry{{}}, false},
		{[]api.Entry{{Key: 63}}, false},
		{[]api.Entry{{Key: 62, Value: code(0, 0)}}, false},
		{[]api.Entry{{Key: 64, Value: code(0, 0)}}, false},
		{[]api.Entry{header(0, 1)}, false},
		{[]api.Entry{header(1, 0, 0)}, false},
		{[]api.Entry{header(0, 0), header(0, 0)}, false},
		{[]api.Entry{at(0, zero), header(0, 0)}, true},
		{[]api.Entry{at(0, zero), header(1, 0, 0)}, true},
		{[]api.Entry{at(0, zero), header(1, 1, 0)}, false},
		{[]api.Entry{at(0, zero), header(0, 1)}, false},
		{[]api.Entry{at(0, zero), header(0, -1)}, false},
		{[]api.Entry{at(0, zero), header(0, 1<<40)}, false},
		{[]api.Entry{at(1, zero), header(0, 0)}, false},
		{[]api.Entry{at(63, zero), header(0, 0)}, false},
		{[]api.Entry{at(-1, zero), header(0, 0)}, false},
		{[]api.Entry{at(math.MinInt, zero), header(0, 0)}, false},
		{[]api.Entry{at(0, zero)}, false},
		{[]api.Entry{at(0, zero), at(0, zero), header(0, 0)}, false},
		{[]api.Entry{header(0, 0), at(0, zero)}, false},
		{[]api.Entry{at(1, one), at(0, zero), header(0, 0)}, false},
		{[]api.Entry{at(0, zero), at(1, one), header(0, 0)}, true},
		{[]api.Entry{at(0, zero, x), at(1, one, x), header(0, 1)}, true},
		{[]api.Entry{at(0, zero, x), at(1, one, y), header(0, 1)}, false},
		{[]api.Entry{at(0, zero, y), at(1, one, x), header(0, 1)}, false},
		{[]api.Entry{at(0, zero, x), at(1, one), header(0, 1)}, false},
		{[]api.Entry{at(0, zero), at(1, one, x), header(0, 1)}, false},
		{[]api.Entry{at(0, zero, x), at(1, one, x), header(0, 0)}, false},
		{[]api.Entry{at(0, zero, x), at(1, one, x), header(0, 3)}, false},
		{[]api.Entry{at(0, zero, x), at(1, one, x), header(0, 2)}, false},
		{[]api.Entry{at(0, zero, x), header(0, 1)}, false},
		{[]api.Entry{at(0, zero, loop), header(0, 1)}, true},
		{[]api.Entry{at(0, zero, loop), at(1, one), header(0, 1)}, true},
		{[]api.Entry{at(0, zero, loop), at(1, one, x), header(0, 1)}, false},
		{[]api.Entry{at(0, zero, x), at(1, one, x), {Key: 2, Value: code(2, 4, 0)}, header(0, 1)}, false},
		{[]api.Entry{{Key: 0}, header(0, 0)}, false},
		{[]api.Entry{{Key: 0, Value: code(0, 0)}, header(0, 0)}, false},
		{[]api.Entry{{Key: 0, Value: "x"}, header(0, 0)}, false},
		{[]api.Entry{{Key: 24, Value: code(24, 0, 0)}, header(0, 0)}, false},
		{slices.Repeat([]api.Entry{header(0, 0)}, 1000), false},
		{slices.Repeat([]api.Entry{at(0, zero)}, 1000), false},
	} {
		if wantJoined(t, c.l) != c.ok {
			t.Errorf("%d: %x", i, c.l)
		}
	}
}

// P6.2: entries of which one was changed or left out, twice or elsewhere, are not those of the graph; most are those of none.
func TestChangedEntries(t *testing.T) {
	r := rand.New(rand.NewSource(3))
	other, none := 0, 0
	for range 20000 {
		g := randomGraph(r)
		l := entriesOf(g)
		i := r.Intn(len(l))
		switch r.Intn(8) {
		case 0:
			l = slices.Delete(l, i, i+1)
		case 1:
			l = slices.Insert(l, r.Intn(len(l)+1), l[i])
		case 2:
			l[i].Key += 1 + r.Intn(30)
		case 3:
			l[i].Key -= 1 + r.Intn(70)
		case 4:
			h := entriesOf(randomGraph(r))
			l[i].Value = h[r.Intn(len(h))].Value
		case 5:
			x := l[r.Intn(len(l))]
			if x == l[i] {
				continue
			}
			l[i] = x
		default:
			x, _ := numbers(l[i].Value)
			k := r.Intn(len(x))
			x[k] += []int{-1, 1, 2, 1 << k}[r.Intn(4)]
			l[i].Value = code(x...)
		}
		if slices.Equal(l, entriesOf(g)) {
			continue
		}
		if wantJoined(t, l) {
			other++
		} else {
			none++
		}
		if h, e := page.Join(l); e == api.OK && graph.Same(g, h) {
			t.Fatalf("Join(%x) = %+v", l, h)
		}
	}
	if other < 500 || none < 5000 {
		t.Error("too few:", other, none)
	}
}

// P6.2: entries that are taken from two graphs, one of which is a change of the other, are those of a graph only if they agree.
func TestMixedEntries(t *testing.T) {
	r := rand.New(rand.NewSource(4))
	joined, refused := 0, 0
	for range 10000 {
		g := randomGraph(r)
		h, _ := graph.Apply(g, randomChange(r, g))
		a, b := map[int]string{}, map[int]string{}
		for _, x := range entriesOf(g) {
			a[x.Key] = x.Value
		}
		for _, x := range entriesOf(h) {
			b[x.Key] = x.Value
		}
		maps.DeleteFunc(b, func(int, string) bool { return r.Intn(2) == 0 })
		maps.Copy(a, b)
		var l []api.Entry
		for _, k := range slices.Sorted(maps.Keys(a)) {
			l = append(l, api.Entry{Key: k, Value: a[k]})
		}
		if wantJoined(t, l) {
			joined++
		} else {
			refused++
		}
	}
	if joined < 1000 || refused < 1000 {
		t.Error("too few:", joined, refused)
	}
}
