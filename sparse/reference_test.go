package sparse_test

import (
	"bytes"
	"crypto/sha256"
	"encoding/binary"
	"fmt"
	"maps"
	"math"
	"math/rand"
	"slices"
	"strings"
	"testing"

	"clearway/api"
	"clearway/sparse"
)

// empty is the digest of a part without keys.
var empty = strings.Repeat("\x00", 32)

// hash returns the SHA-256 of the parts, one after the other, as crypto/sha256 computes it.
func hash(parts ...string) string {
	h := sha256.Sum256([]byte(strings.Join(parts, "")))
	return string(h[:])
}

// part is the part (d, p) of the chapter.
type part struct{ d, p int }

var whole = part{0, 0}

// first and last return the least and the greatest key for which q is responsible.
func (q part) first() int { return q.p << (6 - q.d) }
func (q part) last() int  { return (q.p+1)<<(6-q.d) - 1 }

// holds reports whether q is responsible for one of the keys.
func (q part) holds(keys []int) bool {
	return slices.ContainsFunc(keys, func(k int) bool { return q.first() <= k && k <= q.last() })
}

// halves returns the parts below q.
func (q part) halves() (part, part) {
	return part{q.d + 1, 2 * q.p}, part{q.d + 1, 2*q.p + 1}
}

// above returns the part of which q is a half.
func (q part) above() part { return part{q.d - 1, q.p / 2} }

// leafOf returns the digest of a key with a value that is not empty.
func leafOf(k int, value string) string {
	return hash("\x08", string(binary.AppendVarint(nil, int64(k))), value)
}

// digestIn returns the digest of the part q of the map m.
func (q part) digestIn(m map[int]string) string {
	if !q.holds(slices.Collect(maps.Keys(m))) {
		return empty
	}
	if q.d == 6 {
		return leafOf(q.p, m[q.p])
	}
	a, b := q.halves()
	return hash("\x09", a.digestIn(m), b.digestIn(m))
}

// closedAt returns the closed parts of an opening at the keys, from left to right.
func closedAt(keys []int) []part {
	var l []part
	for d := range 7 {
		for p := range 1 << d {
			if q := (part{d, p}); !q.holds(keys) && (d == 0 || q.above().holds(keys)) {
				l = append(l, q)
			}
		}
	}
	slices.SortFunc(l, func(a, b part) int { return a.first() - b.first() })
	return l
}

// shape returns what o shows at its keys, and what it has for each closed part, if there are enough values and digests. It does not ask whether o is formed.
func shape(o api.Opening) (map[int]string, map[part]string) {
	m, path := map[int]string{}, map[part]string{}
	for i, k := range o.Keys {
		m[k] = o.Values[i]
	}
	for i, q := range closedAt(o.Keys) {
		path[q] = o.Path[i]
	}
	return m, path
}

// digestOf returns the digest of the part q, with the values m at the keys of an opening, and the digests path of its closed parts.
func (q part) digestOf(m map[int]string, path map[part]string) string {
	if s, ok := path[q]; ok {
		return s
	}
	if q.d == 6 {
		if m[q.p] == "" {
			return empty
		}
		return leafOf(q.p, m[q.p])
	}
	a, b := q.halves()
	x, y := a.digestOf(m, path), b.digestOf(m, path)
	if x == empty && y == empty {
		return empty
	}
	return hash("\x09", x, y)
}

// isKeys reports whether l are keys, strictly ascending.
func isKeys(l []int) bool {
	for i, k := range l {
		if k < 0 || k > 63 || i > 0 && k <= l[i-1] {
			return false
		}
	}
	return true
}

// keysOf returns the keys of entries.
func keysOf(l []api.Entry) []int {
	var keys []int
	for _, e := range l {
		keys = append(keys, e.Key)
	}
	return keys
}

// isMap reports whether l is a map.
func isMap(l []api.Entry) bool {
	return isKeys(keysOf(l)) && !slices.ContainsFunc(l, func(e api.Entry) bool { return e.Value == "" || len(e.Value) > 65536 })
}

// isFormed reports whether o is formed.
func isFormed(o api.Opening) bool {
	if !isKeys(o.Keys) || len(o.Keys) != len(o.Values) || len(o.Path) != len(closedAt(o.Keys)) {
		return false
	}
	return !slices.ContainsFunc(o.Values, func(s string) bool { return len(s) > 65536 }) &&
		!slices.ContainsFunc(o.Path, func(s string) bool { return len(s) != 32 })
}

// rootOf returns the root for which o stands, which need not be formed, but must have enough values and digests.
func rootOf(o api.Opening) string {
	return whole.digestOf(shape(o))
}

// mapOf returns the entries l as a Go map, and entriesOf a Go map as entries, without empty values.
func mapOf(l []api.Entry) map[int]string {
	m := map[int]string{}
	for _, e := range l {
		m[e.Key] = e.Value
	}
	return m
}

func entriesOf(m map[int]string) []api.Entry {
	var l []api.Entry
	for k := range 64 {
		if m[k] != "" {
			l = append(l, api.Entry{Key: k, Value: m[k]})
		}
	}
	return l
}

// changed returns the map l after the changes.
func changed(l, changes []api.Entry) []api.Entry {
	m := mapOf(l)
	for _, c := range changes {
		m[c.Key] = c.Value
	}
	return entriesOf(m)
}

// openingOf returns the opening of the map l at the keys.
func openingOf(l []api.Entry, keys []int) api.Opening {
	m := mapOf(l)
	o := api.Opening{Keys: keys}
	for _, k := range keys {
		o.Values = append(o.Values, m[k])
	}
	for _, q := range closedAt(keys) {
		o.Path = append(o.Path, q.digestIn(m))
	}
	return o
}

// same reports whether a and b are the same opening.
func same(a, b api.Opening) bool {
	return slices.Equal(a.Keys, b.Keys) && slices.Equal(a.Values, b.Values) && slices.Equal(a.Path, b.Path)
}

// text returns o for a message, long values and lists cut off.
func text(o api.Opening) string {
	s := fmt.Sprintf("{%v %.40q %.6x}", o.Keys, o.Values, o.Path)
	return s[:min(len(s), 600)]
}

// root returns what Root returns for l, which is a map.
func root(t *testing.T, l []api.Entry) string {
	t.Helper()
	r, e := sparse.Root(l)
	if e != api.OK {
		t.Fatalf("Root of %d entries: error %d", len(l), e)
	}
	return r
}

// prove returns what Prove returns for l, which is a map, and keys in order.
func prove(t *testing.T, l []api.Entry, keys ...int) api.Opening {
	t.Helper()
	o, e := sparse.Prove(l, keys)
	if e != api.OK {
		t.Fatalf("Prove of %d entries at %v: error %d", len(l), keys, e)
	}
	return o
}

// wantMap fails the test unless Valid, Root and Prove (at two keys) treat l as they must.
func wantMap(t *testing.T, l []api.Entry) {
	t.Helper()
	ok := isMap(l)
	if sparse.Valid(l) != ok {
		t.Errorf("Valid(%.100v) = %v", l, !ok)
	}
	r, e := sparse.Root(l)
	if ok && (e != api.OK || r != whole.digestIn(mapOf(l))) || !ok && (e != api.ErrSparse || r != "") {
		t.Errorf("Root(%.100v) = %x, %d", l, r, e)
	}
	wantProof(t, l, []int{5, 63})
}

// wantProof fails the test unless Prove returns the opening of l at the keys, or an error if it must.
func wantProof(t *testing.T, l []api.Entry, keys []int) {
	t.Helper()
	o, e := sparse.Prove(l, keys)
	if isMap(l) && isKeys(keys) {
		if e != api.OK || !same(o, openingOf(l, keys)) {
			t.Errorf("Prove(%.100v, %v) = %s, %d", l, keys, text(o), e)
		}
	} else if e != api.ErrSparse || !same(o, api.Opening{}) {
		t.Errorf("Prove(%.100v, %v) = %s, %d; want ErrSparse", l, keys, text(o), e)
	}
}

// wantRead fails the test unless Read returns what it must, and reports whether o was accepted.
func wantRead(t *testing.T, r string, o api.Opening) bool {
	t.Helper()
	var there []api.Entry
	var absent []int
	want := isFormed(o) && rootOf(o) == r
	if want {
		for i, k := range o.Keys {
			if o.Values[i] != "" {
				there = append(there, api.Entry{Key: k, Value: o.Values[i]})
			} else {
				absent = append(absent, k)
			}
		}
	}
	a, b, ok := sparse.Read(r, o)
	if ok != want || !slices.Equal(a, there) || !slices.Equal(b, absent) {
		t.Errorf("Read(%x, %s) = %.100v, %v, %v; want %v", r, text(o), a, b, ok, want)
	}
	return ok
}

// wantUpdate fails the test unless Update returns what it must, and returns that.
func wantUpdate(t *testing.T, r string, o api.Opening, changes []api.Entry) (string, bool) {
	t.Helper()
	want := isFormed(o) && rootOf(o) == r && isKeys(keysOf(changes))
	for _, c := range changes {
		want = want && len(c.Value) <= 65536 && slices.Contains(o.Keys, c.Key)
	}
	next := ""
	if want {
		m, path := shape(o)
		for _, c := range changes {
			m[c.Key] = c.Value
		}
		next = whole.digestOf(m, path)
	}
	s, ok := sparse.Update(r, o, changes)
	if ok != want || s != next {
		t.Errorf("Update(%x, %s, %.100v) = %x, %v; want %x, %v", r, text(o), changes, s, ok, next, want)
	}
	return s, ok
}

// cloned returns a copy of o that shares no lists with it.
func cloned(o api.Opening) api.Opening {
	return api.Opening{Keys: slices.Clone(o.Keys), Values: slices.Clone(o.Values), Path: slices.Clone(o.Path)}
}

// numbers returns the numbers from least to most.
func numbers(least, most int) []int {
	var l []int
	for n := least; n <= most; n++ {
		l = append(l, n)
	}
	return l
}

// noKeys returns numbers that are no keys.
func noKeys() []int {
	return []int{-1, 64, -2, 65, -63, -64, -65, 127, 128, 191, 192, 1 << 32, 1<<32 + 5, math.MaxInt, math.MaxInt - 63, math.MinInt, math.MinInt + 5}
}

// full returns a map that has all keys.
func full() []api.Entry {
	var l []api.Entry
	for k := range 64 {
		l = append(l, api.Entry{Key: k, Value: strings.Repeat("v", k+1)})
	}
	return l
}

// some returns the map of the examples.
func some() []api.Entry {
	return []api.Entry{{Key: 0, Value: "x"}, {Key: 5, Value: "a"}, {Key: 63, Value: "zz"}}
}

// randomKeys returns some keys, in order: few, or many.
func randomKeys(r *rand.Rand) []int {
	l := r.Perm(64)[:r.Intn(1+[]int{2, 5, 20, 64}[r.Intn(4)])]
	slices.Sort(l)
	return l
}

// randomValue returns a value that is not empty; some look like what is digested.
func randomValue(r *rand.Rand) string {
	b := make([]byte, []int{1, 2, 3, 31, 32, 33, 65, 200}[r.Intn(8)])
	r.Read(b)
	switch r.Intn(4) {
	case 0:
		return string(rune('a' + r.Intn(3)))
	case 1:
		return string(bytes.Repeat(b[:1], len(b)))
	case 2:
		return "\x09" + empty + string(b)
	}
	return string(b)
}

// randomMap returns a map.
func randomMap(r *rand.Rand) []api.Entry {
	var l []api.Entry
	for _, k := range randomKeys(r) {
		l = append(l, api.Entry{Key: k, Value: randomValue(r)})
	}
	return l
}

// randomChanges returns changes at some of the keys; some remove what is there, or leave it as it is in l.
func randomChanges(r *rand.Rand, l []api.Entry, keys []int) []api.Entry {
	m := mapOf(l)
	var out []api.Entry
	for _, k := range keys {
		switch r.Intn(5) {
		case 0:
			out = append(out, api.Entry{Key: k})
		case 1:
			out = append(out, api.Entry{Key: k, Value: m[k]})
		case 2, 3:
			out = append(out, api.Entry{Key: k, Value: randomValue(r)})
		}
	}
	return out
}
