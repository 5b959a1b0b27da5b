// Package cone converts polyhedra between conditions and generators, with
// integers of any size, so that the layers check limits only for their
// results.
//
// A polyhedron in n variables is a cone in one variable more, the height,
// which comes last. A ray with a height greater than 0 stands for a point, the
// ray divided by its height; a ray or a line with the height 0, for a
// direction.
package cone

import (
	"floodmark/api"
	"floodmark/frac"
	"floodmark/rows"
	"floodmark/shape"
	"floodmark/simplex"
)

// Cone consists of all sums of its rays, multiplied by numbers that are at
// least 0, and of its lines, multiplied by any numbers. It is canonical, but
// for the order of its rays, if the lines are in echelon form, the rays are
// primitive and 0 at the leading variables of the lines, and no ray can be
// left out.
type Cone struct {
	Rays, Lines []rows.Row
}

// Of returns the canonical cone of the polyhedron of the conditions on n
// variables, or false if there are too many rays on the way to it. Without
// points there are no directions either.
func Of(n int, conds []simplex.Cond) (Cone, bool) {
	height := simplex.Cond{Row: rows.Unit(n+1, n)}
	c, fits := generated(n+1, append([]simplex.Cond{height}, conds...))
	if !c.HasPoints() {
		return Cone{}, fits
	}
	return c, fits
}

// Merge returns the cone of all rays and lines of the cones.
func Merge(l ...Cone) Cone {
	var out Cone
	for _, c := range l {
		out.Rays = append(out.Rays, c.Rays...)
		out.Lines = append(out.Lines, c.Lines...)
	}
	return out
}

// Map returns the cone of what convert makes of the rays and lines.
func (c Cone) Map(convert func(rows.Row) rows.Row) Cone {
	var out Cone
	for _, r := range c.Rays {
		out.Rays = append(out.Rays, convert(r))
	}
	for _, l := range c.Lines {
		out.Lines = append(out.Lines, convert(l))
	}
	return out
}

// Canon returns the canonical cone of the same points. The forms that are at
// least 0 on a cone are a cone, too, and the inequalities that this one needs
// are the rays that the other one needs.
func (c Cone) Canon(n int) Cone {
	s, _ := shape.Of(n+1, c.conds(n+1, n))
	return Cone{Rays: s.Needed(), Lines: s.Equations()}.Map(func(r rows.Row) rows.Row { return r[: n+1 : n+1] })
}

// Poly returns the canonical form of the polyhedron in n variables, or ErrFull
// if that is not valid or there are too many rays on the way to it.
func (c Cone) Poly(n int) (api.Poly, api.Errno) {
	if !c.HasPoints() {
		return shape.None(n), api.OK
	}
	forms, fits := generated(n+1, c.conds(n+1, n))
	if !fits {
		return api.Poly{}, api.ErrFull
	}
	return forms.poly(n)
}

// Conds returns conditions of the polyhedron in n variables, which has points;
// or false if there are too many rays on the way to them.
func (c Cone) Conds(n int) ([]simplex.Cond, bool) {
	forms, fits := generated(n+1, c.conds(n+1, n))
	var out []simplex.Cond
	for _, l := range forms.Lines {
		out = append(out, simplex.Cond{Row: l, Eq: true})
	}
	for _, r := range forms.Rays {
		out = append(out, simplex.Cond{Row: r})
	}
	return out, fits
}

// Sum returns the canonical form of the polyhedron in n variables of the sums
// of a point of each cone, or ErrFull like Poly. A form is at least 0 for all
// sums if its Add is the sum of two numbers that make it at least 0 for all
// points of one cone each. With both of them as variables, there is one
// condition for each ray, and not for each pair of rays; and the forms that
// are not the sum of others remain so when the numbers are added up.
func (c Cone) Sum(n int, d Cone) (api.Poly, api.Errno) {
	if !c.HasPoints() || !d.HasPoints() {
		return shape.None(n), api.OK
	}
	forms, fits := generated(n+2, append(c.conds(n+2, n), d.conds(n+2, n+1)...))
	if !fits {
		return api.Poly{}, api.ErrFull
	}
	return forms.Map(func(r rows.Row) rows.Row {
		return append(r[:n:n], r[n].Plus(r[n+1])).Primitive()
	}).poly(n)
}

// poly returns the polyhedron of forms: the lines are its equations, and the
// rays its inequalities and constants.
func (c Cone) poly(n int) (api.Poly, api.Errno) {
	var inequalities []rows.Row
	for _, r := range c.Rays {
		if !r.IsConstant() {
			inequalities = append(inequalities, r)
		}
	}
	return shape.Poly(n, c.Lines, inequalities)
}

// Shares returns a number for each ray, and then for each line, so that r is
// the sum of their multiples, and true; or false if r is not in the cone. In
// this case some form is at least 0 on the cone and less than 0 for r.
func (c Cone) Shares(n int, r rows.Row) ([]frac.Frac, bool) {
	t := simplex.New(n+1, c.conds(n+1, n))
	t.Feasible() // because the form 0 is
	target := raised(r, n+1, n)
	if _, is := t.Below(target); is {
		return nil, false
	}
	return t.Multipliers(target), true
}

// HasPoints reports whether the polyhedron has points: those on the bottom are
// directions.
func (c Cone) HasPoints() bool {
	for _, r := range c.Rays {
		if r.Add().Sign() > 0 {
			return true
		}
	}
	return false
}

// conds returns the conditions on forms that are at least 0 on the cone: one
// for each ray, and an equation for each line. The forms have the given number
// of integers; the one at the place add is the Add for this cone.
func (c Cone) conds(size, add int) []simplex.Cond {
	var out []simplex.Cond
	for _, r := range c.Rays {
		out = append(out, simplex.Cond{Row: raised(r, size, add)})
	}
	for _, l := range c.Lines {
		out = append(out, simplex.Cond{Row: raised(l, size, add), Eq: true})
	}
	return out
}

// raised returns the row as the given number of coefficients of a row without
// Add, with its height at the given place.
func raised(r rows.Row, size, place int) rows.Row {
	out := make(rows.Row, size+1)
	copy(out, r[:len(r)-1])
	out[place] = r.Add()
	return out
}

// Row returns the ray of a valid point.
func Row(x []api.Num) rows.Row {
	tops, low := frac.Common(x)
	return append(rows.Row(tops), low)
}

// Point returns the point of a ray with a height greater than 0.
func Point(r rows.Row) []frac.Frac {
	out := make([]frac.Frac, len(r)-1)
	for i := range out {
		out[i] = frac.New(r[i], r.Add())
	}
	return out
}
