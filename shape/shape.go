// Package shape finds the canonical form of polyhedra with integers of any
// size, so that the layers check the limits of polyhedra only for their
// results.
package shape

import (
	"cmp"
	"slices"

	"floodmark/api"
	"floodmark/frac"
	"floodmark/rows"
	"floodmark/simplex"
)

// Shape is a polyhedron with points: all equations that its points satisfy,
// and reduced inequalities. At the inner point no inequality has the value 0.
type Shape struct {
	n            int
	equations    rows.System
	inequalities []rows.Row
	inner        []frac.Frac
}

// list is a list of conditions.
type list []api.Cond

// sort sorts the conditions by their coefficients and then by Add.
func (l list) sort() {
	slices.SortFunc(l, func(c, d api.Cond) int {
		return cmp.Or(slices.Compare(c.Form.Coef, d.Form.Coef), cmp.Compare(c.Form.Add, d.Form.Add))
	})
}

// Canon returns the canonical form of the polyhedron of the conditions on n
// variables, or ErrFull if that is not valid.
func Canon(n int, conds []simplex.Cond) (api.Poly, api.Errno) {
	s, is := Of(n, conds)
	if !is {
		return None(n), api.OK
	}
	return Poly(n, s.Equations(), s.Needed())
}

// Poly returns the polyhedron of the equations, which are in echelon form, and
// of the inequalities, which it sorts; or ErrFull if it is not valid.
func Poly(n int, equations, inequalities []rows.Row) (api.Poly, api.Errno) {
	first, fits := listOf(equations, true)
	second, fitsToo := listOf(inequalities, false)
	if !fits || !fitsToo || len(first)+len(second) > api.MaxConds {
		return api.Poly{}, api.ErrFull
	}
	second.sort()
	return api.Poly{Dim: n, Conds: append(first, second...)}, api.OK
}

// None returns the canonical form of the empty polyhedron.
func None(n int) api.Poly {
	return api.Poly{Dim: n, Conds: []api.Cond{{Form: api.Form{Coef: make([]int, n), Add: -1}}}}
}

// listOf returns the rows as conditions, and whether they are valid.
func listOf(l []rows.Row, eq bool) (list, bool) {
	var out list
	for _, r := range l {
		f, fits := r.Form()
		if !fits {
			return nil, false
		}
		out = append(out, api.Cond{Form: f, Eq: eq})
	}
	return out, true
}

// Of returns the shape of the polyhedron of the conditions on n variables, and
// whether it has points.
func Of(n int, conds []simplex.Cond) (Shape, bool) {
	var equations, others []rows.Row
	for _, c := range conds {
		if c.Eq {
			equations = append(equations, c.Row)
		} else {
			others = append(others, c.Row)
		}
	}
	for {
		s := Shape{n: n, equations: rows.SystemOf(n, equations)}
		if !s.equations.Solvable() || !s.take(others) {
			return Shape{}, false
		}
		tight := s.center()
		if len(tight) == 0 {
			return s, true
		}
		equations = append(s.equations.Rows(), tight...)
		others = s.inequalities
	}
}

// Rank returns the number of dimensions.
func (s *Shape) Rank() int { return s.n - len(s.equations.Leading()) }

// Equations returns the equations in echelon form.
func (s *Shape) Equations() []rows.Row { return s.equations.Rows() }

// Conds returns the conditions of the polyhedron that are needed.
func (s *Shape) Conds() []simplex.Cond {
	var out []simplex.Cond
	for _, r := range s.Equations() {
		out = append(out, simplex.Cond{Row: r, Eq: true})
	}
	for _, r := range s.Needed() {
		out = append(out, simplex.Cond{Row: r})
	}
	return out
}

// Inner returns the inner point.
func (s *Shape) Inner() []frac.Frac { return s.inner }

// take reduces inequalities and takes those that are not constant. It reports
// whether all constant ones are satisfied.
func (s *Shape) take(l []rows.Row) bool {
	for _, r := range l {
		r = s.equations.Reduce(r)
		switch {
		case !r.IsConstant():
			if !slices.ContainsFunc(s.inequalities, r.Equal) {
				s.inequalities = append(s.inequalities, r)
			}
		case r.Add().Sign() < 0:
			return false
		}
	}
	return true
}

// center sets the inner point. If there is none, it returns inequalities that
// all points satisfy with 0. For that, it looks for the greatest value of one
// more variable that is at most the value of each inequality.
func (s *Shape) center() []rows.Row {
	least := rows.Unit(s.n+2, s.n)
	var conds []simplex.Cond
	for _, r := range s.inequalities {
		conds = append(conds, simplex.Cond{Row: s.wider(r).Plus(least.Neg())})
	}
	for _, r := range s.equations.Rows() {
		conds = append(conds, simplex.Cond{Row: s.wider(r), Eq: true})
	}
	t := simplex.New(s.n+1, conds)
	t.Feasible() // with a value that is negative enough
	if x, is := t.Below(least.Neg()); is {
		s.inner = x[:s.n:s.n]
		return nil
	}
	// A sum of these inequalities with positive factors is at most 0 for all
	// points. (If it is less, there are no points.)
	var tight []rows.Row
	for i, a := range t.Multipliers(least.Neg())[:len(s.inequalities)] {
		if a.Sign() > 0 {
			tight = append(tight, s.inequalities[i])
		}
	}
	return tight
}

// wider returns the row with one variable more, which has the coefficient 0.
func (s *Shape) wider(r rows.Row) rows.Row {
	out := make(rows.Row, s.n+2)
	copy(out, r[:s.n])
	out[s.n+1] = r.Add()
	return out
}

// Needed returns the inequalities without which there would be more points. It
// tests each one against the others that are left.
func (s *Shape) Needed() []rows.Row {
	var conds []simplex.Cond
	for _, r := range s.inequalities {
		conds = append(conds, simplex.Cond{Row: r})
	}
	t := simplex.New(s.n, conds)
	t.Feasible()
	var out []rows.Row
	for i, r := range s.inequalities {
		rest := t.Without(i)
		if _, is := rest.Below(r); is {
			out = append(out, r)
		} else {
			t = rest
		}
	}
	return out
}
