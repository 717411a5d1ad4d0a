package page_test

import (
	"encoding/hex"
	"math"
	"math/rand"
	"slices"
	"strings"
	"testing"

	"clearway/api"
	"clearway/graph"
	"clearway/page"
	"clearway/sparse"
)

// The examples of the chapter.
func TestExamples(t *testing.T) {
	g := example()
	if s, e := page.Page(g, 0); e != api.OK || s != "\x00\x00\x02\x02\x04\x00\x02\x0e\x02" {
		t.Errorf("%x, %d", s, e)
	}
	l, e := page.Entries(g)
	if e != api.OK || len(l) != 3 || l[2] != (api.Entry{Key: 63, Value: "\x02\x00\x14"}) {
		t.Errorf("%v, %d", l, e)
	}
	if l := page.Neighbours(2, graph.At(g, 2)); !slices.Equal(l, []int{0}) {
		t.Error(l)
	}
	if s, e := page.Page(g, 1); e != api.ErrPage || s != "" {
		t.Errorf("%x, %d", s, e)
	}
}

// wantPage fails the test if Page returns something else than want, or, if want is empty, anything but ErrPage.
func wantPage(t *testing.T, g api.Graph, id int, want string) {
	t.Helper()
	e := api.OK
	if want == "" {
		e = api.ErrPage
	}
	if s, f := page.Page(g, id); s != want || f != e {
		t.Fatalf("Page(%+v, %d) = %x, %d; want %x", g, id, s, f, want)
	}
}

// P6.1: the pages of all vertices, and none of other numbers; entries and roots.
func TestPagesAndEntries(t *testing.T) {
	for _, g := range samples() {
		want := entriesOf(g)
		pages := map[int]string{}
		for _, x := range want[:len(want)-1] {
			pages[x.Key] = x.Value
		}
		for id := -3; id < 70; id++ {
			wantPage(t, g, id, pages[id])
		}
		for _, id := range []int{math.MinInt, math.MaxInt, 1 << 32, -1 << 32} {
			wantPage(t, g, id, "")
		}
		if l, e := page.Entries(g); e != api.OK || !slices.Equal(l, want) {
			t.Fatalf("Entries(%+v) = %x, %d; want %x", g, l, e, want)
		}
		root, _ := sparse.Root(want)
		if s, e := page.Root(g); e != api.OK || s != root || len(s) != 32 {
			t.Fatalf("Root(%+v) = %x, %d; want %x", g, s, e, root)
		}
	}
}

// P6.1: nothing but ErrPage for graphs that are not valid.
func TestGraphsThatAreNotValid(t *testing.T) {
	for _, g := range broken() {
		for id := -1; id < 25; id++ {
			wantPage(t, g, id, "")
		}
		if l, e := page.Entries(g); e != api.ErrPage || len(l) != 0 {
			t.Errorf("Entries(%+v) = %v, %d", g, l, e)
		}
		if s, e := page.Root(g); e != api.ErrPage || s != "" {
			t.Errorf("Root(%+v) = %x, %d", g, s, e)
		}
	}
}

// P6.1: roots that another program has computed.
func TestRoots(t *testing.T) {
	for i, c := range []struct {
		g    api.Graph
		want string
	}{
		{api.Graph{}, "69b47ac0c276cc62726424033909a5e92f7d4cea72c70af5c243c76c4f6e9bd7"},
		{example(), "f680b8c099d56961ed90c4ba9423d1dcc5a13ca3bbf61cc7cf70d2b2edafb59d"},
		{full(), "8ee72e7b470e4c2e92ed914c1c7bf9101b94e66e9c49c8858791761799808857"},
	} {
		if s, e := page.Root(c.g); e != api.OK || hex.EncodeToString([]byte(s)) != c.want {
			t.Errorf("%d: %x, %d", i, s, e)
		}
	}
}

// wantParsed fails the test if Parse or Header of s differ from the reference. It returns whether s is a page, and whether it is a header.
func wantParsed(t *testing.T, s string) (bool, bool) {
	t.Helper()
	v, edges, ok := readPage(s)
	e := api.OK
	if !ok {
		e = api.ErrPage
	}
	if w, l, f := page.Parse(s); w != v || !slices.Equal(l, edges) || f != e {
		t.Fatalf("Parse(%x) = %+v, %+v, %d; want %+v, %+v, %d", s, w, l, f, v, edges, e)
	}
	depots, sum, is := readHeader(s)
	e = api.OK
	if !is {
		e = api.ErrPage
	}
	if d, n, f := page.Header(s); !slices.Equal(d, depots) || n != sum || f != e {
		t.Fatalf("Header(%x) = %v, %d, %d; want %v, %d, %d", s, d, n, f, depots, sum, e)
	}
	return ok, is
}

// P6.1: all pages and headers are read, and none of their prefixes, nor with something behind them.
func TestParse(t *testing.T) {
	for _, g := range samples() {
		l := entriesOf(g)
		for i, x := range l {
			want := func(s string, ok bool) {
				t.Helper()
				is, header := wantParsed(t, s)
				if i == len(l)-1 {
					is = header
				}
				if is != ok {
					t.Fatalf("%x, of %x: %v", s, x.Value, is)
				}
			}
			want(x.Value, true)
			for k := range x.Value {
				want(x.Value[:k], false)
			}
			for _, more := range []string{"\x00", "\x02", "\x80", "\xff", x.Value} {
				want(x.Value+more, false)
			}
		}
	}
}

// P6.1: pages and headers are exactly those of valid graphs: one number, or two, are replaced by others, or left out, or put in.
func TestParseOtherNumbers(t *testing.T) {
	others := []int{-1 << 62, 1<<62 - 1, -1001, -1000, -2, -1, 0, 1, 2, 3, 4, 5, 22, 23, 24, 38, 39, 40, 41, 1000, 1001, 1<<40 - 1, 1 << 40, 1<<41 - 1, -1 << 40}
	pages, headers := map[string]bool{}, map[string]bool{}
	try := func(l []int) {
		s := code(l...)
		is, header := wantParsed(t, s)
		if is {
			pages[s] = true
		}
		if header {
			headers[s] = true
		}
	}
	var l [][]int
	for _, g := range []api.Graph{{}, example(), full(), crowded(), graphOf([]int{3, 4, 5}, []api.Edge{{ID: 38, From: 4, To: 4}, {ID: 39, From: 5, To: 4}}, []int{3, 4, 5})} {
		for _, v := range g.Vertices {
			l = append(l, pageNumbers(v, g.Edges))
		}
		l = append(l, headerNumbers(g))
	}
	for _, x := range l {
		for i := range x {
			try(slices.Delete(slices.Clone(x), i, i+1))
			for _, n := range others {
				y := slices.Clone(x)
				y[i] = n
				try(y)
				try(slices.Insert(slices.Clone(x), i, n))
				if len(x) > 16 {
					continue
				}
				for k := range i {
					for _, m := range others {
						z := slices.Clone(y)
						z[k] = m
						try(z)
					}
				}
			}
		}
	}
	if len(pages) < 500 || len(headers) < 100 {
		t.Error("too few:", len(pages), len(headers))
	}
}

// P6.1: edges in another order, twice, or of which the vertex is no end, and counts that promise too much.
func TestParseOtherEdges(t *testing.T) {
	v := api.Vertex{ID: 2, Side: 1}
	a, b, c := api.Edge{ID: 1, From: 2, To: 3}, api.Edge{ID: 2, From: 4, To: 2}, api.Edge{ID: 3, From: 3, To: 4}
	on := func(l ...api.Edge) string {
		x := []int{v.ID, v.Side, len(l)}
		for _, e := range l {
			x = append(x, edgeNumbers(e)...)
		}
		return code(x...)
	}
	for _, s := range []string{on(), on(a), on(b), on(a, b)} {
		if is, _ := wantParsed(t, s); !is {
			t.Errorf("%x is a page", s)
		}
	}
	var many []api.Edge
	for id := range 41 {
		many = append(many, api.Edge{ID: id, From: 2, To: 3})
	}
	full, _ := wantParsed(t, on(many[:40]...))
	if !full {
		t.Error("40 edges stand on a page")
	}
	bare := code(2, 1)
	for _, s := range []string{
		on(b, a), on(a, a), on(c), on(a, b, c), on(a, b, a), on(many...), "",
		bare, bare + code(-1), bare + code(1), bare + code(41), bare + code(1<<62-1), bare + code(-1<<61) + "\x00",
		bare + "\x80\x00", "\x84\x00\x02\x00", "\x04\x82\x00\x00", bare + "\x80", bare + strings.Repeat("\xff", 20),
		bare + code(1<<61) + strings.Repeat("\x00", 1<<20), strings.Repeat("\x00", 1<<20),
	} {
		if is, _ := wantParsed(t, s); is {
			t.Errorf("%.40x is no page", s)
		}
	}
}

// P6.1: any bytes; most of them are no page and no header.
func TestParseBytes(t *testing.T) {
	for a := range 256 {
		wantParsed(t, string([]byte{byte(a)}))
		for b := range 256 {
			wantParsed(t, string([]byte{byte(a), byte(b)}))
			wantParsed(t, string([]byte{byte(a), byte(b), 0}))
			wantParsed(t, string([]byte{2, byte(a), byte(b)}))
		}
	}
	r := rand.New(rand.NewSource(2))
	for range 30000 {
		g := randomGraph(r)
		x := entriesOf(g)
		s := []byte(x[r.Intn(len(x))].Value)
		for range 1 + r.Intn(3) {
			i := r.Intn(len(s) + 1)
			switch {
			case r.Intn(4) == 0:
				s = slices.Insert(s, i, byte(r.Intn(256)))
			case i < len(s) && r.Intn(3) == 0:
				s = slices.Delete(s, i, i+1)
			case i < len(s):
				s[i] ^= 1 << r.Intn(8)
			}
		}
		wantParsed(t, string(s))
	}
}
