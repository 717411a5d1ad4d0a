package graph_test

import (
	"encoding/binary"
	"math"
	"math/rand"
	"slices"
	"testing"

	"clearway/api"
	"clearway/graph"
)

// wantChangeAt fails the test if DecodeChange of s at the offset at does not give c, next and e.
func wantChangeAt(t *testing.T, s string, at int, c api.Change, next int, e api.Errno) {
	t.Helper()
	if d, n, f := graph.DecodeChange(s, at); !equal(d, c) || n != next || f != e {
		t.Fatalf("DecodeChange(%x, %d) = %v, %d, %d; want %v, %d, %d", s, at, d, n, f, c, next, e)
	}
}

// wantGraphAt fails the test if Decode of s at the offset at does not give g, next and e.
func wantGraphAt(t *testing.T, s string, at int, g api.Graph, next int, e api.Errno) {
	t.Helper()
	if h, n, f := graph.Decode(s, at); !equal(h, g) || n != next || f != e {
		t.Fatalf("Decode(%x, %d) = %v, %d, %d; want %v, %d, %d", s, at, h, n, f, g, next, e)
	}
}

// noChangeAt and noGraphAt fail the test if there is a change, or a graph, in s at the offset at.
func noChangeAt(t *testing.T, s string, at int) {
	t.Helper()
	wantChangeAt(t, s, at, api.Change{}, 0, api.ErrGraph)
}

func noGraphAt(t *testing.T, s string, at int) {
	t.Helper()
	wantGraphAt(t, s, at, api.Graph{}, 0, api.ErrGraph)
}

// around are strings that stand before and after encodings.
var around = []string{"", "\x00", "\x7f", "\x80", "\xff", "\x80\x00", "\xff\xff\xff\xff\xff\xff\xff\xff\xff\xff\xff"}

// count returns the list of the numbers from first on, n of them.
func count(first, n int) []int {
	var l []int
	for i := range n {
		l = append(l, first+i)
	}
	return l
}

// strange returns changes that have encodings, whether they act on a graph or not.
func strange(r *rand.Rand) []api.Change {
	l := []api.Change{
		{},
		{Kind: api.MaxInt},
		{Kind: -api.MaxInt},
		{Kind: api.CSplit, ID: 1, Vertex: api.Vertex{ID: 5, Side: 1}, Ends: []int{1, 2}},
		{Kind: api.CDepots, Depots: []int{0, 2}},
		{Kind: 1, Vertex: api.Vertex{ID: 2, Side: 3}, Edge: api.Edge{ID: 4, From: 5, To: 6, Directed: true, Weight: 7, Cap: 8}, ID: 9, N: 10, Ends: []int{11, 12}, Depots: []int{13, 14, 15}},
		{Vertex: api.Vertex{ID: -api.MaxInt, Side: api.MaxInt}, Edge: api.Edge{ID: api.MaxInt, From: -api.MaxInt, To: api.MaxInt, Weight: -api.MaxInt, Cap: api.MaxInt}, ID: -api.MaxInt, N: api.MaxInt},
		{Ends: count(0, 80), Depots: count(-1, 3)},
		{Ends: count(-3, 79), Depots: []int{5, 5}},
		{Ends: []int{api.MaxInt, -api.MaxInt, 0, 0}, Depots: []int{api.MaxInt, -api.MaxInt, 0}},
		{Ends: []int{0}},
		{Depots: []int{0}},
	}
	for range 300 {
		var n [10]int
		for i := range n {
			n[i] = (int(r.Int63()>>1) - 1<<61) >> r.Intn(62)
		}
		l = append(l, api.Change{Kind: n[0], Vertex: api.Vertex{ID: n[1], Side: n[2]}, Edge: api.Edge{ID: n[3], From: n[4], To: n[5], Directed: n[0]%2 == 0, Weight: n[6], Cap: n[7]}, ID: n[8], N: n[9], Ends: n[:r.Intn(11)], Depots: n[r.Intn(4):3]})
		if c := randomChange(r, randomGraph(r)); len(c.Depots) <= api.MaxDepots && c.N >= -api.MaxInt && c.N <= api.MaxInt {
			l = append(l, c)
		}
	}
	return l
}

// P3.1 and P3.6: changes have the encoding that is defined, and are decoded, wherever it stands; a part of it is refused.
func TestChanges(t *testing.T) {
	for _, c := range strange(rand.New(rand.NewSource(7))) {
		s, e := graph.EncodeChange(c)
		if s != code(changeNumbers(c)...) || e != api.OK {
			t.Fatalf("EncodeChange(%v) = %x, %d", c, s, e)
		}
		for _, before := range around {
			for _, after := range around {
				wantChangeAt(t, before+s+after, len(before), c, len(before+s), api.OK)
			}
		}
		for k := range len(s) {
			noChangeAt(t, s[:k], 0)
		}
	}
}

// P3.1: a change with a long list, or a number without encoding, has no encoding.
func TestEncodeChangeRefuses(t *testing.T) {
	l := []api.Change{{Ends: count(0, 81)}, {Ends: make([]int, 1000)}, {Depots: count(0, 4)}, {Depots: make([]int, 80)}, {Ends: count(0, 80), Depots: count(0, 4)}}
	for _, n := range []int{1 << 62, -1 << 62, api.MaxInt + 2, math.MaxInt, math.MinInt} {
		l = append(l,
			api.Change{Kind: n},
			api.Change{Vertex: api.Vertex{ID: n}},
			api.Change{Vertex: api.Vertex{Side: n}},
			api.Change{Edge: api.Edge{ID: n}},
			api.Change{Edge: api.Edge{From: n}},
			api.Change{Edge: api.Edge{To: n}},
			api.Change{Edge: api.Edge{Weight: n}},
			api.Change{Edge: api.Edge{Cap: n}},
			api.Change{ID: n},
			api.Change{N: n},
			api.Change{Ends: []int{n}},
			api.Change{Ends: []int{n, 0}},
			api.Change{Ends: []int{0, n}},
			api.Change{Depots: []int{n}},
			api.Change{Depots: []int{n, 0, 0}},
			api.Change{Depots: []int{0, 0, n}},
			api.Change{Kind: n, Ends: []int{n}, Depots: []int{n}},
		)
	}
	for _, c := range l {
		if s, e := graph.EncodeChange(c); s != "" || e != api.ErrGraph {
			t.Errorf("EncodeChange(%v) = %x, %d", c, s, e)
		}
	}
}

// P3.1: what is no encoding of a change: long lists, lengths that are none, a direction that is neither 0 nor 1.
func TestDecodeChangeRefuses(t *testing.T) {
	head := []int{8, 0, 0, 0, 0, 0, 0, 0, 0, 1, 0}
	for _, n := range []int{81, 82, 1000, -1, -2, -80, api.MaxInt, -api.MaxInt, 1 << 32, 1<<32 + 1} {
		noChangeAt(t, code(append(head, n)...)+string(make([]byte, 1200)), 0)
	}
	for _, n := range []int{4, 5, 80, -1, -3, api.MaxInt, -api.MaxInt, 1 << 32, 1<<32 + 1} {
		noChangeAt(t, code(append(head, 0, n)...)+string(make([]byte, 200)), 0)
		noChangeAt(t, code(append(head, 1, 1, n)...)+string(make([]byte, 200)), 0)
	}
	for _, n := range []int{2, -1, 3, 1 << 32, 1<<32 + 1, api.MaxInt, -api.MaxInt} {
		l := append(slices.Clone(head), 0, 0)
		l[6] = n
		noChangeAt(t, code(l...), 0)
	}
	for i := range 13 { // a number with a superfluous group, or beyond MaxInt
		l := append(slices.Clone(head), 0, 0)
		noChangeAt(t, code(l[:i]...)+"\x80\x00"+code(l[i+1:]...), 0)
		noChangeAt(t, code(l[:i]...)+"\xff\xff\xff\xff\xff\xff\xff\xff\x7f"+code(l[i+1:]...), 0)
	}
}

// badOffsets returns numbers that are no offsets into a string of size bytes, and its end, where nothing begins.
func badOffsets(size int) []int {
	return []int{size, size + 1, size + 2, -1, -2, -size, -size - 1, api.MaxInt, -api.MaxInt, math.MaxInt, math.MinInt}
}

// P3.1: offsets.
func TestOffsets(t *testing.T) {
	s := code(changeNumbers(api.Change{Kind: 1})...)
	u := code(graphNumbers(example())...)
	for _, at := range badOffsets(len(s)) {
		noChangeAt(t, s, at)
	}
	for _, at := range badOffsets(len(u)) {
		noGraphAt(t, u, at)
	}
	for _, at := range append(badOffsets(0), 0, 1) {
		noChangeAt(t, "", at)
		noGraphAt(t, "", at)
	}
	wantChangeAt(t, s+s+s, len(s), api.Change{Kind: 1}, 2*len(s), api.OK)
	wantGraphAt(t, u+u+u, 2*len(u), example(), 3*len(u), api.OK)
	wantGraphAt(t, "\x00\x00\x00", 0, api.Graph{}, 3, api.OK)
	noGraphAt(t, "\x00\x00\x00", 1)
}

// P3.1 and P3.6: graphs have the encoding that is defined, and are decoded, wherever it stands; a part of it is refused.
func TestGraphs(t *testing.T) {
	r := rand.New(rand.NewSource(8))
	l := bases()
	for range 500 {
		l = append(l, randomGraph(r))
	}
	for _, g := range l {
		s, e := graph.Encode(g)
		if s != code(graphNumbers(g)...) || e != api.OK {
			t.Fatalf("Encode(%v) = %x, %d", g, s, e)
		}
		for _, before := range around {
			for _, after := range around {
				wantGraphAt(t, before+s+after, len(before), g, len(before+s), api.OK)
			}
		}
		for k := range len(s) {
			noGraphAt(t, s[:k], 0)
		}
	}
}

// P3.1: an encoding in which one number is another one is that of another graph, or refused.
func TestDamaged(t *testing.T) {
	graphs := 0
	for _, g := range bases()[1:5] {
		l := graphNumbers(g)
		for i, old := range l {
			for _, n := range numbers {
				if n == math.MaxInt || n == math.MinInt {
					continue
				}
				l[i] = n
				graphs += wantParsed(t, code(l...), 0)
				graphs += wantParsed(t, code(l...)+string(make([]byte, 400)), 0)
				l[i] = old
			}
			noGraphAt(t, code(l[:i]...)+"\x80\x00"+code(l[i+1:]...), 0)
			noGraphAt(t, code(l[:i]...)+"\xff\xff\xff\xff\xff\xff\xff\xff\x7f"+code(l[i+1:]...), 0)
		}
	}
	if graphs < 300 {
		t.Errorf("only %d graphs", graphs)
	}
}

// P3.1: what would be the encoding of each graph that is not valid is refused.
func TestDecodeInvalid(t *testing.T) {
	many := full()
	many.Vertices = append(many.Vertices, api.Vertex{ID: 24})
	more := full()
	more.Edges = append(more.Edges, api.Edge{ID: 40})
	four := full()
	four.Depots = []int{0, 1, 2, 3}
	for _, g := range []api.Graph{
		many, more, four,
		{Vertices: []api.Vertex{{ID: 1}, {ID: 0}}},
		{Vertices: []api.Vertex{{ID: 1}, {ID: 1}}},
		{Vertices: []api.Vertex{{ID: 24}}},
		{Vertices: []api.Vertex{{ID: -1}}},
		{Edges: []api.Edge{{}}},
		{Depots: []int{0}},
		{Vertices: []api.Vertex{{}}, Edges: []api.Edge{{}, {}}},
		{Vertices: []api.Vertex{{}}, Edges: []api.Edge{{ID: 1}, {ID: 0}}},
		{Vertices: []api.Vertex{{}}, Depots: []int{0, 0}},
		{Vertices: []api.Vertex{{}, {ID: 1}}, Depots: []int{1, 0}},
	} {
		noGraphAt(t, code(graphNumbers(g)...), 0)
	}
}

// P3.6: what is decoded has exactly the bytes that were passed as its encoding: bytes of encodings are changed, and they are read from other offsets on.
func TestExact(t *testing.T) {
	r := rand.New(rand.NewSource(9))
	changes, graphs := 0, 0
	for range 60000 {
		g := randomGraph(r)
		b := []byte(code(graphNumbers(g)...))
		if r.Intn(2) == 0 {
			b = []byte(code(changeNumbers(randomChange(r, g))...))
		}
		for range r.Intn(3) {
			b[r.Intn(len(b))] = byte(r.Intn(256))
		}
		at := r.Intn(1 + len(b)/4)
		s := string(b)
		graphs += wantParsed(t, s, at)
		if c, next, e := graph.DecodeChange(s, at); e == api.OK {
			changes++
			if u, f := graph.EncodeChange(c); f != api.OK || u != s[at:next] {
				t.Fatalf("DecodeChange(%x, %d) = %v, %d, whose encoding is %x", s, at, c, next, u)
			}
		}
		if h, next, e := graph.Decode(s, at); e == api.OK {
			if u, f := graph.Encode(h); f != api.OK || u != s[at:next] {
				t.Fatalf("Decode(%x, %d) = %v, %d, whose encoding is %x", s, at, h, next, u)
			}
		}
	}
	if changes < 1000 || graphs < 1000 {
		t.Errorf("only %d changes and %d graphs", changes, graphs)
	}
}

// parser reads numbers with encoding/binary. It has failed if there was none, or not the kind that was wanted.
type parser struct {
	s      string
	at     int
	failed bool
}

// next returns the next number from least to most.
func (p *parser) next(least, most int) int {
	if p.failed {
		return 0
	}
	n, size := binary.Varint([]byte(p.s[p.at:]))
	if size <= 0 || n < int64(least) || n > int64(most) || code(int(n)) != p.s[p.at:p.at+size] {
		p.failed = true
		return 0
	}
	p.at += size
	return int(n)
}

// any returns the next number, and numbers a list of at most most of them.
func (p *parser) any() int { return p.next(-api.MaxInt, api.MaxInt) }

func (p *parser) numbers(most int) []int {
	var l []int
	for range p.next(0, most) {
		l = append(l, p.any())
	}
	return l
}

// edge reads an edge, valid or not.
func (p *parser) edge() api.Edge {
	e := api.Edge{}
	e.ID = p.any()
	e.From = p.any()
	e.To = p.any()
	e.Directed = p.next(0, 1) == 1
	e.Weight = p.any()
	e.Cap = p.any()
	return e
}

// change reads a change.
func (p *parser) change() api.Change {
	c := api.Change{}
	c.Kind = p.any()
	c.Vertex.ID = p.any()
	c.Vertex.Side = p.any()
	c.Edge = p.edge()
	c.ID = p.any()
	c.N = p.any()
	c.Ends = p.numbers(80)
	c.Depots = p.numbers(3)
	return c
}

// graph reads a graph, which has to be valid.
func (p *parser) graph() api.Graph {
	g := api.Graph{}
	there := map[int]bool{}
	last := -1
	for range p.next(0, 24) {
		last = p.next(last+1, 23)
		there[last] = true
		g.Vertices = append(g.Vertices, api.Vertex{ID: last, Side: p.next(0, 3)})
	}
	last = -1
	for range p.next(0, 40) {
		e := p.edge()
		p.failed = p.failed || e.ID <= last || e.ID > 39 || !there[e.From] || !there[e.To] || e.Weight < -1000 || e.Weight > 1000 || e.Cap < 0 || e.Cap > 1000
		last = e.ID
		g.Edges = append(g.Edges, e)
	}
	last = -1
	for range p.next(0, 3) {
		last = p.next(last+1, 23)
		p.failed = p.failed || !there[last]
		g.Depots = append(g.Depots, last)
	}
	return g
}

// wantParsed fails the test if Decode and DecodeChange of s at the offset at do not find what the parser finds. It returns how many graphs there are: 0 or 1.
func wantParsed(t *testing.T, s string, at int) int {
	t.Helper()
	p := &parser{s: s, at: at}
	if c := p.change(); p.failed {
		noChangeAt(t, s, at)
	} else {
		wantChangeAt(t, s, at, c, p.at, api.OK)
	}
	p = &parser{s: s, at: at}
	g := p.graph()
	if p.failed {
		noGraphAt(t, s, at)
		return 0
	}
	wantGraphAt(t, s, at, g, p.at, api.OK)
	return 1
}
