package sparse_test

import (
	"fmt"
	"math/rand"
	"slices"
	"strings"
	"testing"

	"clearway/api"
	"clearway/sparse"
)

// P4.1: roots that another program computed, in another language.
func TestRootKnown(t *testing.T) {
	var decimals []api.Entry
	for k := range 64 {
		decimals = append(decimals, api.Entry{Key: k, Value: fmt.Sprint(k)})
	}
	for _, c := range []struct {
		l    []api.Entry
		want string
	}{
		{nil, strings.Repeat("0", 64)},
		{[]api.Entry{}, strings.Repeat("0", 64)},
		{[]api.Entry{{Key: 0, Value: "a"}}, "f57bb6f5d574afb14b292ce129af936fa67aa10edf6ab6862894c541851e2b4b"},
		{[]api.Entry{{Key: 5, Value: "a"}}, "a053cf471ea72c820c56c07ec4a40d3a1fada95d6d67686a5c0e4d3499f50bb4"},
		{[]api.Entry{{Key: 63, Value: "a"}}, "0c3107cd1461a6ee645e6b2688d5369aae79ea8e2a5ba3d3cbb78e34b434d679"},
		{some(), "2c65ce215a9aeec34846babb5fa41f54ae881de6334f8b4f52273e4178c5da87"},
		{decimals, "7a77907bd79af691bbc1c8d3181e1d2df4e8279b1d5a44cd56db7fa44c3c8823"},
		{[]api.Entry{{Key: 31, Value: strings.Repeat("l", 65536)}, {Key: 32, Value: strings.Repeat("r", 65536)}}, "1da7d12deda8f3b580eaed8ea6030383becd744487ee6516cad6e2e446d7d149"},
	} {
		if r := fmt.Sprintf("%x", root(t, c.l)); r != c.want {
			t.Errorf("Root(%.100v) = %s, want %s", c.l, r, c.want)
		}
	}
}

// The chapter's examples.
func TestExamples(t *testing.T) {
	if root(t, nil) != empty {
		t.Error("Root of no entries")
	}
	o := prove(t, nil, 5)
	if !same(o, api.Opening{Keys: []int{5}, Values: []string{""}, Path: slices.Repeat([]string{empty}, 6)}) {
		t.Errorf("Prove of no entries at 5: %s", text(o))
	}
	if l, absent, ok := sparse.Read(empty, o); len(l) != 0 || !slices.Equal(absent, []int{5}) || !ok {
		t.Errorf("Read: %v, %v, %v", l, absent, ok)
	}
	for _, l := range [][]api.Entry{nil, some(), full()} {
		if o := prove(t, l); !same(o, api.Opening{Path: []string{root(t, l)}}) {
			t.Errorf("Prove of %d entries at no keys: %s", len(l), text(o))
		}
	}
	five := []api.Entry{{Key: 5, Value: "a"}}
	if next, ok := sparse.Update(empty, o, five); !ok || next != root(t, five) {
		t.Errorf("Update: %x, %v", next, ok)
	}
}

// P4.1: maps of all shapes: every key alone, all beside one, all up to one, all from one on.
func TestMaps(t *testing.T) {
	wantMap(t, nil)
	wantMap(t, []api.Entry{})
	wantMap(t, some())
	wantMap(t, full())
	for k := range 64 {
		wantMap(t, []api.Entry{{Key: k, Value: "a"}})
		wantMap(t, full()[:k])
		wantMap(t, full()[k:])
		wantMap(t, slices.Delete(full(), k, k+1))
	}
	r := rand.New(rand.NewSource(1))
	for range 300 {
		wantMap(t, randomMap(r))
	}
}

// P4.1: values of all lengths around the blocks of a digest, and up to the longest one; values with the bytes that begin what is digested.
func TestValues(t *testing.T) {
	for _, n := range append(numbers(1, 140), 65535, 65536) {
		wantMap(t, []api.Entry{{Key: n % 64, Value: strings.Repeat("\xff", n)}})
	}
	for _, s := range []string{"\x00", empty, "\x08", "\x08\x0aa", "\x09" + empty + empty, "\x09" + empty + leafOf(1, "a"), "\xff\xfe", "é"} {
		wantMap(t, []api.Entry{{Key: 1, Value: s}, {Key: 2, Value: s}})
	}
}

// P4.1: lists that are no maps, the error being the first, a middle or the last entry, or all of them.
func TestNoMaps(t *testing.T) {
	long := strings.Repeat("a", 65537)
	bad := []func(l []api.Entry, i int){
		func(l []api.Entry, i int) { l[i].Value = "" },
		func(l []api.Entry, i int) { l[i].Value = long },
		func(l []api.Entry, i int) { j := (i + 1) % len(l); l[i].Key, l[j].Key = l[j].Key, l[i].Key },
		func(l []api.Entry, i int) { l[i].Key = l[(i+1)%len(l)].Key },
	}
	for _, k := range noKeys() {
		bad = append(bad, func(l []api.Entry, i int) { l[i].Key = k })
	}
	for _, good := range [][]api.Entry{some(), some()[:2], full()} {
		for n, spoil := range bad {
			for i := range good {
				l := slices.Clone(good)
				spoil(l, i)
				if isMap(l) {
					t.Fatalf("%d leaves a map: %v", n, l)
				}
				wantMap(t, l)
			}
		}
	}
	for _, k := range noKeys() {
		wantMap(t, []api.Entry{{Key: k, Value: "a"}})
	}
	wantMap(t, []api.Entry{{Key: 5}})
	wantMap(t, []api.Entry{{}})
	wantMap(t, []api.Entry{{Key: 5, Value: long}})
	wantMap(t, make([]api.Entry, 100000))
	wantMap(t, slices.Repeat(some(), 2))
}

// P4.1: openings at every key, at all pairs of keys, at all keys up to one, and from one on, of maps that have them, and that have not.
func TestProveAll(t *testing.T) {
	for _, l := range [][]api.Entry{nil, some(), full()} {
		wantProof(t, l, nil)
		wantProof(t, l, []int{})
		for a := range 64 {
			wantProof(t, l, []int{a})
			wantProof(t, l, numbers(0, a))
			wantProof(t, l, numbers(a, 63))
		}
	}
	l := slices.DeleteFunc(full(), func(e api.Entry) bool { return e.Key%3 == 0 })
	for a := range 64 {
		for b := range a {
			wantProof(t, l, []int{b, a})
		}
	}
	r := rand.New(rand.NewSource(2))
	for range 1000 {
		wantProof(t, randomMap(r), randomKeys(r))
	}
}

// P4.1: the digests of an opening, as another program computed them, from left to right.
func TestProveKnown(t *testing.T) {
	var path []string
	for _, s := range prove(t, some(), 4, 5).Path {
		path = append(path, fmt.Sprintf("%x", s))
	}
	none := strings.Repeat("0", 64)
	if !slices.Equal(path, []string{"864bc576bf13154334b06025cac0d06566b375fb1c9ce47f900d411d8f47be3b", none, none, none, "95b08d95fba257692bd783529569ee24ff9621c439a2c7833e4bcb68d9afb1c8"}) {
		t.Errorf("%v", path)
	}
}

// P4.1: keys that are not ascending, or no keys at all; and lists that are no maps.
func TestProveRefused(t *testing.T) {
	for _, l := range [][]api.Entry{nil, some(), full(), {{Key: 5}}, {{Key: 64, Value: "a"}}} {
		for _, k := range noKeys() {
			for _, keys := range [][]int{{k}, {k, 5}, {5, k}, {0, k, 63}, {0, 63, k}} {
				wantProof(t, l, keys)
			}
		}
		for _, keys := range [][]int{{5, 5}, {0, 0}, {63, 63}, {6, 5}, {63, 0}, {1, 3, 2}, {1, 2, 2}, append(numbers(0, 63), 63), append(numbers(0, 63), 64), make([]int, 100000)} {
			wantProof(t, l, keys)
		}
		wantProof(t, l, nil)
		wantProof(t, l, []int{5})
	}
}
