package level

import (
	"cmp"
	"slices"

	"clearway/api"
)

// Delete returns the valid forest s without the link id, and the number of the link that replaces it, or -1 if none does.
func Delete(s api.Leveled, id int) (api.Leveled, int, api.Errno) {
	if !Valid(s) || !hasLink(s, id) {
		return api.Leveled{}, 0, api.ErrLevel
	}
	d := own(s)
	other := remove(&d, id)
	return d, other, api.OK
}

// remove does what Delete does, in a forest of the program's own that has the link id.
func remove(s *api.Leveled, id int) int {
	k, _ := place(*s, id)
	gone := s.Links[k]
	s.Links = slices.Delete(s.Links, k, k+1)
	if !gone.Tree {
		return -1
	}
	for i := gone.Level; i >= 0; i-- {
		if other := replace(s, gone, i); other != -1 {
			return other
		}
	}
	return -1
}

// replace looks for a replacement of the tree link gone among the links with the level i, makes it a tree link, and returns its number, or -1 if there is none. What it has looked at in vain is raised. As the small side has at most half of the vertices that a part may have at this level, its links may be raised, and none of them has the greatest level.
func replace(s *api.Leveled, gone api.Link, i int) int {
	small := smallSide(*s, gone, i)
	raise := func(x *api.Link) {
		x.Level++
		s.Raised++
	}
	for k := range s.Links {
		if x := &s.Links[k]; x.Tree && x.Level == i && small[x.From] && small[x.To] {
			raise(x)
		}
	}
	for k := range s.Links {
		x := &s.Links[k]
		if x.Tree || x.From == x.To || x.Level != i || !small[x.From] && !small[x.To] {
			continue
		}
		if small[x.From] != small[x.To] {
			x.Tree = true
			return x.ID
		}
		raise(x)
	}
	return -1
}

// smallSide returns, of the parts of both ends of the link gone at the level i, the one with fewer vertices, or, if both have as many, the one with the least vertex. (The link is not in s any more, so these are two parts.)
func smallSide(s api.Leveled, gone api.Link, i int) part {
	a, b := partOf(s, gone.From, i), partOf(s, gone.To, i)
	if cmp.Or(cmp.Compare(a.size(), b.size()), cmp.Compare(a.least(), b.least())) < 0 {
		return a
	}
	return b
}
