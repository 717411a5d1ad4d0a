package sparse_test

import (
	"math/rand"
	"slices"
	"strings"
	"sync"
	"testing"
	"unsafe"

	"clearway/api"
	"clearway/sparse"
)

// roomy returns a copy of l with spare capacity, which is filled with x.
func roomy[T any](l []T, x T) []T {
	return append(slices.Clone(l), x, x, x)[:len(l)]
}

// overwrite writes x to all of l and to its spare capacity.
func overwrite[T any](l []T, x T) {
	l = l[:cap(l)]
	for i := range l {
		l[i] = x
	}
}

// entire returns a copy of l and its spare capacity.
func entire[T any](l []T) []T { return slices.Clone(l[:cap(l)]) }

// roomyOpening returns a copy of o whose lists have spare capacity; entireOpening returns a copy of o with that, and spoil overwrites it.
func roomyOpening(o api.Opening) api.Opening {
	return api.Opening{Keys: roomy(o.Keys, 77), Values: roomy(o.Values, "spare"), Path: roomy(o.Path, "spare")}
}

func entireOpening(o api.Opening) api.Opening {
	return api.Opening{Keys: entire(o.Keys), Values: entire(o.Values), Path: entire(o.Path)}
}

func spoil(o api.Opening) {
	overwrite(o.Keys, 99)
	overwrite(o.Values, "overwritten")
	overwrite(o.Path, "overwritten")
}

// R3: arguments are not changed, nor is their spare capacity; and results share no lists with them, nor with each other.
func TestMemory(t *testing.T) {
	r := rand.New(rand.NewSource(13))
	junk := api.Entry{Key: 99, Value: "overwritten"}
	for range 500 {
		l := roomy(randomMap(r), api.Entry{Key: 77})
		keys := roomy(randomKeys(r), 77)
		rt := root(t, l)
		want := openingOf(slices.Clone(l), slices.Clone(keys))
		o := roomyOpening(want)
		c := roomy(randomChanges(r, l, keys), api.Entry{Key: 77})
		lists, ints, opening, changes := entire(l), entire(keys), entireOpening(o), entire(c)
		sparse.Valid(l)
		made, again := prove(t, l, keys...), prove(t, l, keys...)
		there, absent, _ := sparse.Read(rt, o)
		there2, absent2, _ := sparse.Read(rt, o)
		next, ok := sparse.Update(rt, o, c)
		entries, missing := slices.Clone(there), slices.Clone(absent)
		check := func(what string) {
			t.Helper()
			if !slices.Equal(entire(l), lists) || !slices.Equal(entire(keys), ints) || !same(entireOpening(o), opening) || !slices.Equal(entire(c), changes) {
				t.Fatalf("%s: arguments are changed", what)
			}
		}
		check("called")
		spoil(again)
		overwrite(there2, junk)
		overwrite(absent2, 99)
		check("results are overwritten")
		overwrite(l, junk)
		overwrite(keys, 99)
		spoil(o)
		overwrite(c, junk)
		if !same(made, want) || !slices.Equal(there, entries) || !slices.Equal(absent, missing) || !ok || len(next) != 32 {
			t.Fatal("results share memory")
		}
		overwrite(made.Values, "overwritten")
		if !slices.Equal(made.Path, want.Path) {
			t.Fatal("the lists of a result share memory")
		}
	}
}

// P4.1: strings of results share no memory with those of arguments, so that a short one does not keep a long argument in memory.
func TestStringsNew(t *testing.T) {
	shares := func(a, b string) bool { return unsafe.StringData(a) == unsafe.StringData(b) }
	long := strings.Repeat("long", 1000)
	l := []api.Entry{{Key: 5, Value: long}}
	o := prove(t, l, 5)
	if shares(o.Values[0], long) {
		t.Error("Prove")
	}
	if there, _, _ := sparse.Read(root(t, l), o); shares(there[0].Value, o.Values[0]) {
		t.Error("Read")
	}
	r := root(t, l)
	none := prove(t, l)
	if next, _ := sparse.Update(r, none, nil); shares(next, r) || shares(next, none.Path[0]) {
		t.Error("Update")
	}
}

// R4: the results depend on the arguments alone, whatever was called before.
func TestRepeated(t *testing.T) {
	r := rand.New(rand.NewSource(14))
	for range 50 {
		l, keys := randomMap(r), randomKeys(r)
		o := openingOf(l, keys)
		c := randomChanges(r, l, keys)
		for range 3 {
			wantMap(t, l)
			wantMap(t, []api.Entry{{Key: 5}})
			wantProof(t, l, keys)
			wantProof(t, l, []int{64})
			wantRead(t, rootOf(o), o)
			wantRead(t, empty, o)
			wantUpdate(t, rootOf(o), o, c)
			wantUpdate(t, hash(""), o, c)
		}
	}
}

// R4: no state is shared by calls at the same time (run with -race).
func TestParallel(t *testing.T) {
	l, keys := full(), []int{3, 40, 41}
	o := openingOf(l, keys)
	r := rootOf(o)
	c := []api.Entry{{Key: 40}, {Key: 41, Value: "n"}}
	var wg sync.WaitGroup
	for range 8 {
		wg.Go(func() {
			for range 20 {
				wantMap(t, l)
				wantProof(t, l, keys)
				wantRead(t, r, o)
				wantUpdate(t, r, o, c)
			}
		})
	}
	wg.Wait()
}
