package widen

import (
	"slices"

	"floodmark/rows"
	"floodmark/shape"
)

// group contains parts of a polyhedron, and the equations that are left if one
// of these parts is left out.
type group struct {
	parts []rows.Row
	rest  rows.System
}

// groupsOf returns the parts of a polyhedron in n variables: those of each
// equation, and then the inequalities.
func groupsOf(n int, s *shape.Shape) []group {
	equations := s.Equations()
	var out []group
	for i, r := range equations {
		others := append(equations[:i:i], equations[i+1:]...)
		out = append(out, group{[]rows.Row{r, r.Neg()}, rows.SystemOf(n, others)})
	}
	return append(out, group{s.Needed(), rows.SystemOf(n, equations)})
}

func partsOf(groups []group) []rows.Row {
	var out []rows.Row
	for _, g := range groups {
		out = append(out, g.parts...)
	}
	return out
}

// standIns returns those of the parts that can stand for one of the groups.
// All points of the polyhedron p of the groups satisfy the parts; c can stand
// for d if the points of p stay the same with c in the place of d.
//
// This is so if and only if c is a positive multiple of d where the equations
// hold that are left. If d is an inequality, it bounds a face of p, which no
// other inequality does. If d is one of an equation, the polyhedron without d
// consists of the points of p with any negative values of d, because the other
// inequalities do not depend on d. There c is a d + h with a number a and a
// form h in the variables that do not lead, and h is at least 0 on p, where d
// is 0. So c excludes all negative values of d if and only if a is positive
// and h is at most 0 on p, that is, 0; and p satisfies no other equation in
// these variables than 0 = 0.
func standIns(groups []group, parts []rows.Row) []rows.Row {
	var out []rows.Row
next:
	for _, c := range parts {
		for _, g := range groups {
			if slices.ContainsFunc(g.parts, g.rest.Reduce(c).Equal) {
				out = append(out, c)
				continue next
			}
		}
	}
	return out
}
