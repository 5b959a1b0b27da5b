package poly

import (
	"cmp"
	"slices"

	"floodmark/api"
	"floodmark/frac"
	"floodmark/rows"
	"floodmark/simplex"
	"floodmark/whole"
)

// shape is a polyhedron with points: all equations that its points satisfy,
// and reduced inequalities. At the inner point no inequality has the value 0.
type shape struct {
	n            int
	equations    rows.System
	inequalities []rows.Row
	inner        []frac.Frac
}

// list is a list of conditions.
type list []api.Cond

// sort sorts the conditions by their coefficients and then by Add.
func (l list) sort() {
	slices.SortFunc(l, func(c, d api.Cond) int {
		return cmp.Or(slices.Compare(c.Form.Coef, d.Form.Coef), cmp.Compare(c.Form.Add, d.Form.Add))
	})
}

// canon returns the canonical form of the polyhedron of the conditions.
func canon(n int, conds []simplex.Cond) (api.Poly, api.Errno) {
	s, is := shapeOf(n, conds)
	if !is {
		return none(n), api.OK
	}
	equations, fits := listOf(s.equations.Rows(), true)
	needed, fitsToo := listOf(s.needed(), false)
	if !fits || !fitsToo || len(equations)+len(needed) > api.MaxConds {
		return api.Poly{}, api.ErrFull
	}
	needed.sort()
	return api.Poly{Dim: n, Conds: append(equations, needed...)}, api.OK
}

// listOf returns the rows as conditions, and whether they are valid.
func listOf(l []rows.Row, eq bool) (list, bool) {
	var out list
	for _, r := range l {
		f, fits := r.Form()
		if !fits {
			return nil, false
		}
		out = append(out, api.Cond{Form: f, Eq: eq})
	}
	return out, true
}

// shapeOf returns the shape of the polyhedron of the conditions, and whether
// it has points.
func shapeOf(n int, conds []simplex.Cond) (shape, bool) {
	var equations, others []rows.Row
	for _, c := range conds {
		if c.Eq {
			equations = append(equations, c.Row)
		} else {
			others = append(others, c.Row)
		}
	}
	for {
		s := shape{n: n, equations: rows.SystemOf(n, equations)}
		if !s.equations.Solvable() || !s.take(others) {
			return shape{}, false
		}
		tight := s.center()
		if len(tight) == 0 {
			return s, true
		}
		equations = append(s.equations.Rows(), tight...)
		others = s.inequalities
	}
}

// take reduces inequalities and takes those that are not constant. It reports
// whether all constant ones are satisfied.
func (s *shape) take(l []rows.Row) bool {
	for _, r := range l {
		r = s.equations.Reduce(r)
		switch {
		case !r.IsConstant():
			if !slices.ContainsFunc(s.inequalities, r.Equal) {
				s.inequalities = append(s.inequalities, r)
			}
		case r.Add().Sign() < 0:
			return false
		}
	}
	return true
}

// center sets the inner point. If there is none, it returns inequalities that
// all points satisfy with 0. For that, it looks for the greatest value of one
// more variable that is at most the value of each inequality.
func (s *shape) center() []rows.Row {
	least := make(rows.Row, s.n+2)
	least[s.n] = whole.Of(1)
	var conds []simplex.Cond
	for _, r := range s.inequalities {
		conds = append(conds, simplex.Cond{Row: s.wider(r).Plus(least.Neg())})
	}
	for _, r := range s.equations.Rows() {
		conds = append(conds, simplex.Cond{Row: s.wider(r), Eq: true})
	}
	t := simplex.New(s.n+1, conds)
	t.Feasible() // with a value that is negative enough
	if x, is := t.Below(least.Neg()); is {
		s.inner = x[:s.n:s.n]
		return nil
	}
	// A sum of these inequalities with positive factors is at most 0 for all
	// points. (If it is less, there are no points.)
	var tight []rows.Row
	for i, a := range t.Multipliers(least.Neg())[:len(s.inequalities)] {
		if a.Sign() > 0 {
			tight = append(tight, s.inequalities[i])
		}
	}
	return tight
}

// wider returns the row with one variable more, which has the coefficient 0.
func (s *shape) wider(r rows.Row) rows.Row {
	out := make(rows.Row, s.n+2)
	copy(out, r[:s.n])
	out[s.n+1] = r.Add()
	return out
}

// needed returns the inequalities without which there would be more points. It
// tests each one against the others that are left.
func (s *shape) needed() []rows.Row {
	var conds []simplex.Cond
	for _, r := range s.inequalities {
		conds = append(conds, simplex.Cond{Row: r})
	}
	t := simplex.New(s.n, conds)
	t.Feasible()
	var out []rows.Row
	for i, r := range s.inequalities {
		rest := t.Without(i)
		if _, is := rest.Below(r); is {
			out = append(out, r)
		} else {
			t = rest
		}
	}
	return out
}
