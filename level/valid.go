package level

import "clearway/api"

// Valid reports whether s is valid.
func Valid(s api.Leveled) bool {
	return s.Raised >= 0 && validVertices(s.Vertices) && validLinks(s) && acyclic(s) && validLevels(s)
}

// validVertices reports whether l can be the vertices of a forest.
func validVertices(l []int) bool {
	last := -1
	for _, v := range l {
		if v <= last || v >= api.MaxVertices {
			return false
		}
		last = v
	}
	return true
}

// validLinks reports whether each link of s, which has valid vertices, can stand in a forest, whatever the others are.
func validLinks(s api.Leveled) bool {
	last := -1
	for _, x := range s.Links {
		if x.ID <= last || x.ID >= api.MaxEdges || !hasVertex(s, x.From) || !hasVertex(s, x.To) || x.Level < 0 || x.Level > api.MaxLevel {
			return false
		}
		if x.From == x.To && x.Level != 0 {
			return false
		}
		last = x.ID
	}
	return true
}

// acyclic reports whether the tree links of s contain no cycle: so each of them, and thus none that is a loop, makes one part of two.
func acyclic(s api.Leveled) bool {
	parts, links := 0, 0
	all := partsAt(s, 0)
	for _, v := range s.Vertices {
		if all[v].least() == v {
			parts++
		}
	}
	for _, x := range s.Links {
		if x.Tree {
			links++
		}
	}
	return parts+links == len(s.Vertices)
}

// validLevels reports whether no part of s is too large for its level, and the ends of each link are joined at its level.
func validLevels(s api.Leveled) bool {
	for i := range api.MaxLevel + 1 {
		all := partsAt(s, i)
		for _, p := range all {
			if p.size() > api.MaxVertices>>i {
				return false
			}
		}
		for _, x := range s.Links {
			if x.Level == i && all[x.From] != all[x.To] {
				return false
			}
		}
	}
	return true
}
