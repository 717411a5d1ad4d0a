package level_test

import (
	"math"
	"math/rand"
	"slices"
	"testing"

	"clearway/api"
	"clearway/level"
)

// copyOf returns a copy of s.
func copyOf(s api.Leveled) api.Leveled {
	s.Vertices, s.Links = slices.Clone(s.Vertices), slices.Clone(s.Links)
	return s
}

// whole returns a valid forest that has a bit of everything: links with all levels, tree links and others, a loop, parallel links and a vertex alone.
func whole() api.Leveled {
	return api.Leveled{
		Vertices: []int{0, 1, 2, 5, 9, 23},
		Links: []api.Link{
			link(0, 0, 1, 3, true), link(2, 2, 1, 2, true), link(3, 0, 2, 2, false), link(4, 1, 0, 3, false), link(6, 5, 2, 1, true),
			link(7, 9, 5, 0, true), link(8, 0, 9, 0, false), link(9, 9, 9, 0, false), link(39, 1, 5, 1, false),
		},
		Raised: 17,
	}
}

// P8.1: what makes a forest invalid, and what does not.
func TestValid(t *testing.T) {
	for i, c := range []struct {
		f     func(s *api.Leveled)
		valid bool
	}{
		{func(s *api.Leveled) {}, true},
		{func(s *api.Leveled) { s.Raised = 0 }, true},
		{func(s *api.Leveled) { s.Raised = -1 }, false},
		{func(s *api.Leveled) { s.Raised = math.MaxInt }, true},
		{func(s *api.Leveled) { s.Raised = math.MinInt }, false},
		{func(s *api.Leveled) { s.Vertices = append(s.Vertices, 24) }, false},
		{func(s *api.Leveled) { s.Vertices = append(s.Vertices, 1<<32+1) }, false},
		{func(s *api.Leveled) { s.Vertices = append(s.Vertices, 23) }, false},
		{func(s *api.Leveled) { s.Vertices = append(s.Vertices, 22) }, false},
		{func(s *api.Leveled) { s.Vertices = slices.Insert(s.Vertices, 0, -1) }, false},
		{func(s *api.Leveled) { s.Vertices = slices.Insert(s.Vertices, 0, math.MinInt) }, false},
		{func(s *api.Leveled) { s.Vertices = slices.Insert(s.Vertices, 1, 0) }, false},
		{func(s *api.Leveled) { s.Vertices = slices.Insert(s.Vertices, 3, 3) }, true},
		{func(s *api.Leveled) { s.Vertices = s.Vertices[:5] }, true},
		{func(s *api.Leveled) { s.Vertices = s.Vertices[:4] }, false},
		{func(s *api.Leveled) { s.Vertices = s.Vertices[1:] }, false},
		{func(s *api.Leveled) { s.Vertices[0], s.Vertices[1] = 1, 0 }, false},
		{func(s *api.Leveled) { s.Links[8].ID = 40 }, false},
		{func(s *api.Leveled) { s.Links[8].ID = math.MaxInt }, false},
		{func(s *api.Leveled) { s.Links[0].ID = -1 }, false},
		{func(s *api.Leveled) { s.Links[1].ID = 0 }, false},
		{func(s *api.Leveled) { s.Links[1].ID = 1 }, true},
		{func(s *api.Leveled) { s.Links[2], s.Links[3] = s.Links[3], s.Links[2] }, false},
		{func(s *api.Leveled) { s.Links[7].From, s.Links[7].To = 3, 3 }, false},
		{func(s *api.Leveled) { s.Links[7].From, s.Links[7].To = 24, 24 }, false},
		{func(s *api.Leveled) { s.Links[7].From, s.Links[7].To = -1, -1 }, false},
		{func(s *api.Leveled) { s.Links[6].From = 24 }, false},
		{func(s *api.Leveled) { s.Links[6].To = -1 }, false},
		{func(s *api.Leveled) { s.Links[6].To = 3 }, false},
		{func(s *api.Leveled) { s.Links[0].From, s.Links[0].To = 1, 0 }, true},
		{func(s *api.Leveled) { s.Links[7].Tree = true }, false},
		{func(s *api.Leveled) { s.Links[7].Level = 1 }, false},
		{func(s *api.Leveled) { s.Links[7].Level = -1 }, false},
		{func(s *api.Leveled) { s.Links[7].From, s.Links[7].To = 0, 0; s.Links[7].Level = 1 }, false},
		{func(s *api.Leveled) { s.Links[0].Level = 4 }, false},
		{func(s *api.Leveled) { s.Links[0].Level = math.MaxInt }, false},
		{func(s *api.Leveled) { s.Links[0].Level = 2 }, false}, // the link 4 is not joined any more
		{func(s *api.Leveled) { s.Links[0].Level = 2; s.Links[3].Level = 2 }, true},
		{func(s *api.Leveled) { s.Links[1].Level = 3; s.Links[2].Level = 3 }, true},
		{func(s *api.Leveled) { s.Links[2].Level = 3 }, false},
		{func(s *api.Leveled) { s.Links[1].Level = 1 }, false},
		{func(s *api.Leveled) { s.Links[6].Level = 1 }, false},
		{func(s *api.Leveled) { s.Links[8].Level = 2 }, false},
		{func(s *api.Leveled) { s.Links[8].Level = 0 }, true},
		{func(s *api.Leveled) { s.Links[6].Level = -1 }, false},
		{func(s *api.Leveled) { s.Links[6].Level = math.MinInt }, false},
		{func(s *api.Leveled) { s.Links[6].Tree = true }, false},
		{func(s *api.Leveled) { s.Links[3].Tree = true }, false},
		{func(s *api.Leveled) { s.Links[8].Tree = true }, false},
		{func(s *api.Leveled) { s.Links[5].Tree = false }, false},
		{func(s *api.Leveled) { s.Links[5].Tree, s.Links[6].Tree = false, true }, true},
		{func(s *api.Leveled) { s.Links[4].Tree, s.Links[8].Tree = false, true }, true},
		{func(s *api.Leveled) { s.Links[0].Tree = false }, false},
		{func(s *api.Leveled) { s.Links = nil }, true},
		{func(s *api.Leveled) { s.Vertices = nil }, false},
		{func(s *api.Leveled) { *s = api.Leveled{} }, true},
	} {
		s := whole()
		c.f(&s)
		if level.Valid(checked(t, s)) != c.valid {
			t.Errorf("%d: %+v", i, s)
		}
	}
}

// P8.1: a cycle of tree links, and whatever else there are as many of as in a forest.
func TestCycles(t *testing.T) {
	for i, c := range []struct {
		links []api.Link // between the vertices 0 to 5
		valid bool
	}{
		{[]api.Link{link(0, 0, 1, 0, true), link(1, 1, 2, 0, true), link(2, 2, 0, 0, true)}, false},
		{[]api.Link{link(0, 0, 1, 0, true), link(1, 1, 2, 0, true), link(2, 2, 0, 0, false)}, true},
		{[]api.Link{link(0, 0, 1, 0, true), link(1, 1, 0, 0, true)}, false},
		{[]api.Link{link(0, 0, 1, 3, true), link(1, 0, 1, 0, true)}, false},
		{[]api.Link{link(0, 0, 0, 0, true)}, false},
		{[]api.Link{link(0, 0, 1, 0, true), link(1, 1, 0, 0, true), link(2, 3, 4, 0, false)}, false},
		{[]api.Link{link(0, 0, 0, 0, true), link(2, 3, 4, 0, false)}, false},
		{[]api.Link{link(0, 0, 1, 0, true), link(1, 1, 2, 0, true), link(2, 3, 4, 0, true), link(3, 4, 5, 0, true)}, true},
		{[]api.Link{link(0, 0, 1, 0, true), link(1, 1, 2, 0, true), link(2, 3, 4, 0, true), link(3, 4, 5, 0, true), link(4, 5, 0, 0, true)}, true},
		{[]api.Link{link(0, 0, 1, 0, true), link(1, 1, 2, 0, true), link(2, 3, 4, 0, true), link(3, 4, 5, 0, true), link(4, 5, 0, 0, true), link(5, 2, 3, 0, true)}, false},
		{[]api.Link{link(0, 0, 1, 0, true), link(1, 1, 2, 0, true), link(2, 2, 3, 0, true), link(3, 3, 1, 0, true)}, false},
	} {
		s := api.Leveled{Vertices: []int{0, 1, 2, 3, 4, 5}, Links: c.links}
		if level.Valid(checked(t, s)) != c.valid {
			t.Errorf("%d: %+v", i, s)
		}
	}
}

// P8.1: at each level, parts have at most so many vertices: in a row or around one of them, with a lower level next to it.
func TestSizesOfParts(t *testing.T) {
	var all []int
	for v := range 24 {
		all = append(all, v)
	}
	for i, most := range []int{24, 12, 6, 3} {
		for n := 2; n <= 24; n++ {
			row, star := api.Leveled{Vertices: all}, api.Leveled{Vertices: all}
			for v := 1; v < 24; v++ {
				x := link(v, v-1, v, 0, true)
				if v < n {
					x.Level = i
				}
				row.Links = append(row.Links, x)
				x.From = 0
				star.Links = append(star.Links, x)
			}
			if level.Valid(checked(t, row)) != (n <= most) || level.Valid(checked(t, star)) != (n <= most) {
				t.Errorf("%d vertices at the level %d", n, i)
			}
		}
	}
}

// P8.1: a part that is not that of the first vertices may be too large, too; and links with greater levels count.
func TestSizesOfOtherParts(t *testing.T) {
	for _, last := range []int{1, 2, 3} {
		s := api.Leveled{Vertices: []int{0, 1, 2, 3, 20, 21, 22, 23}, Links: []api.Link{link(0, 20, 21, 3, true), link(1, 21, 22, 3, true), link(2, 22, 23, last, true)}}
		if level.Valid(checked(t, s)) != (last < 3) {
			t.Error(last)
		}
	}
	s := api.Leveled{Vertices: []int{0, 1, 2, 3, 4, 5, 6, 7}, Links: []api.Link{link(0, 0, 1, 3, true), link(1, 1, 2, 3, true), link(2, 2, 3, 2, true), link(3, 3, 4, 3, true), link(4, 4, 5, 3, true)}}
	if !level.Valid(checked(t, s)) {
		t.Error("two parts of three in one of six")
	}
	s.Links = append(s.Links, link(5, 6, 0, 2, true))
	if level.Valid(checked(t, s)) {
		t.Error("a part of seven at the level 2")
	}
}

// P8.1: all forests with two vertices, at most two links, and all that these may be, valid or not.
func TestAllSmallForests(t *testing.T) {
	var l []api.Link
	for from := range 3 {
		for to := range 3 {
			for i := -1; i <= 4; i++ {
				l = append(l, link(0, from, to, i, false), link(0, from, to, i, true))
			}
		}
	}
	valid := 0
	for _, x := range l {
		for _, y := range l {
			for id := 0; id < 3; id++ {
				y.ID = id
				s := api.Leveled{Vertices: []int{0, 1}, Links: []api.Link{x, y}}
				if level.Valid(checked(t, s)) {
					valid++
				}
				s.Links = s.Links[:1]
				checked(t, s)
			}
		}
	}
	if valid < 50 {
		t.Error("too few are valid:", valid)
	}
}

// spoil changes one number in s.
func spoil(r *rand.Rand, s *api.Leveled) {
	n := anyOf(r, numbers)
	if len(s.Links) == 0 || r.Intn(8) == 0 {
		s.Vertices[r.Intn(len(s.Vertices))] = n
		return
	}
	x := &s.Links[r.Intn(len(s.Links))]
	switch r.Intn(9) {
	case 0:
		x.ID = n
	case 1:
		x.From = n
	case 2:
		x.To = n
	case 3:
		x.Level = n
	case 4:
		x.Tree = !x.Tree
	case 5:
		x.Level += r.Intn(3) - 1
	case 6:
		x.From = anyOf(r, s.Vertices)
	case 7:
		y := &s.Links[r.Intn(len(s.Links))]
		x.Tree, y.Tree = y.Tree, x.Tree
	case 8:
		s.Raised = n
	}
}

// P8.1: random forests of which some numbers are changed, and all calls on them.
func TestSpoiledForests(t *testing.T) {
	r := rand.New(rand.NewSource(4))
	valid := map[bool]int{}
	for range 4000 {
		s := randomForest(r)
		for range 1 + r.Intn(2) {
			spoil(r, &s)
		}
		valid[level.Valid(checked(t, s))]++
		if isValid(s) {
			continue
		}
		wantRoots(t, s)
		v, id := anyOf(r, s.Vertices), r.Intn(40)
		wantConnected(t, s, v, anyOf(r, s.Vertices))
		wantInsert(t, s, id, v, v)
		wantDelete(t, s, id)
		for v := range 24 {
			wantJoin(t, s, v)
			wantLeave(t, s, v)
		}
	}
	if valid[true] < 200 || valid[false] < 2000 {
		t.Error(valid)
	}
}

// P8.1: forests are the same if all fields are, also if they are not valid.
func TestSame(t *testing.T) {
	if !level.Same(whole(), whole()) {
		t.Error("not the same as itself")
	}
	for i, f := range []func(s *api.Leveled){
		func(s *api.Leveled) { s.Raised++ },
		func(s *api.Leveled) { s.Vertices[3]++ },
		func(s *api.Leveled) { s.Vertices = s.Vertices[:5] },
		func(s *api.Leveled) { s.Vertices = append(s.Vertices, 99) },
		func(s *api.Leveled) { s.Vertices[0], s.Vertices[1] = s.Vertices[1], s.Vertices[0] },
		func(s *api.Leveled) { s.Links = s.Links[:8] },
		func(s *api.Leveled) { s.Links = append(s.Links, api.Link{}) },
		func(s *api.Leveled) { s.Links[0], s.Links[1] = s.Links[1], s.Links[0] },
		func(s *api.Leveled) { s.Links[8].ID-- },
		func(s *api.Leveled) { s.Links[8].From++ },
		func(s *api.Leveled) { s.Links[8].To = math.MinInt },
		func(s *api.Leveled) { s.Links[8].Level++ },
		func(s *api.Leveled) { s.Links[8].Tree = !s.Links[8].Tree },
		func(s *api.Leveled) { *s = api.Leveled{} },
	} {
		s := whole()
		f(&s)
		if level.Same(s, whole()) || level.Same(whole(), s) || !level.Same(s, copyOf(s)) {
			t.Error(i)
		}
	}
	if !level.Same(api.Leveled{}, api.Leveled{Vertices: []int{}, Links: []api.Link{}}) {
		t.Error("nil and empty lists")
	}
}
