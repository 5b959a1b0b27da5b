// Package cone converts polyhedra between conditions and generators, with
// integers of any size, so that the layers check limits only for their
// results.
//
// A polyhedron in n variables is a cone in one variable more, the height,
// which comes last. A ray with a height greater than 0 stands for a point, the
// ray divided by its height; a ray or a line with the height 0, for a
// direction.
package cone

import (
	"floodmark/api"
	"floodmark/frac"
	"floodmark/rows"
	"floodmark/shape"
	"floodmark/simplex"
)

// Cone consists of all sums of its rays, multiplied by numbers that are at
// least 0, and of its lines, multiplied by any numbers. It is canonical, but
// for the order of its rays, if the lines are in echelon form, the rays are
// primitive and 0 at the leading variables of the lines, and no ray can be
// left out.
type Cone struct {
	Rays, Lines []rows.Row
}

// Of returns the canonical cone of the polyhedron of the conditions on n
// variables, or false if there are too many rays on the way to it.
func Of(n int, conds []simplex.Cond) (Cone, bool) {
	height := simplex.Cond{Row: rows.Unit(n+1, n)}
	return generated(n+1, append([]simplex.Cond{height}, conds...))
}

// Canon returns the canonical cone of the same points. The forms that are at
// least 0 on a cone are a cone, too, and the inequalities that this one needs
// are the rays that the other one needs.
func (c Cone) Canon(n int) Cone {
	s, _ := shape.Of(n+1, c.conds())
	var out Cone
	for _, r := range s.Needed() {
		out.Rays = append(out.Rays, r[:n+1:n+1])
	}
	for _, l := range s.Equations() {
		out.Lines = append(out.Lines, l[:n+1:n+1])
	}
	return out
}

// Poly returns the canonical form of the polyhedron in n variables, or ErrFull
// if that is not valid or there are too many rays on the way to it.
func (c Cone) Poly(n int) (api.Poly, api.Errno) {
	if !c.HasPoints() {
		return shape.None(n), api.OK
	}
	forms, fits := generated(n+1, c.conds())
	if !fits {
		return api.Poly{}, api.ErrFull
	}
	var inequalities []rows.Row
	for _, r := range forms.Rays {
		if !r.IsConstant() {
			inequalities = append(inequalities, r)
		}
	}
	return shape.Poly(n, forms.Lines, inequalities)
}

// Shares returns a number for each ray, and then for each line, so that r is
// the sum of their multiples, and true; or false if r is not in the cone. In
// this case some form is at least 0 on the cone and less than 0 for r.
func (c Cone) Shares(n int, r rows.Row) ([]frac.Frac, bool) {
	t := simplex.New(n+1, c.conds())
	t.Feasible() // because the form 0 is
	if _, is := t.Below(homogeneous(r)); is {
		return nil, false
	}
	return t.Multipliers(homogeneous(r)), true
}

// HasPoints reports whether the polyhedron has points: those on the bottom are
// directions.
func (c Cone) HasPoints() bool {
	for _, r := range c.Rays {
		if r.Add().Sign() > 0 {
			return true
		}
	}
	return false
}

// conds returns the conditions on forms that are at least 0 on the cone: one
// for each ray, and an equation for each line.
func (c Cone) conds() []simplex.Cond {
	var out []simplex.Cond
	for _, r := range c.Rays {
		out = append(out, simplex.Cond{Row: homogeneous(r)})
	}
	for _, l := range c.Lines {
		out = append(out, simplex.Cond{Row: homogeneous(l), Eq: true})
	}
	return out
}

// homogeneous returns the row as the coefficients of a row without Add.
func homogeneous(r rows.Row) rows.Row {
	out := make(rows.Row, len(r)+1)
	copy(out, r)
	return out
}
