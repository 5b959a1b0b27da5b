package rows

import "floodmark/api"

// System is a system of equations in n variables, at most MaxDim + 1, because
// polyhedra in MaxDim variables are cones in one variable more. The row at
// place c has its first integer that is not 0 there: c is its leading
// variable, or n for an equation that only consists of Add and has no
// solution. Places without such a row are nil. The rows are reduced: each one
// is primitive, its leading integer is positive, and the other rows are 0
// there. Equal systems with a solution have equal rows.
type System struct {
	n    int
	rows [api.MaxDim + 2]Row
}

// SystemOf returns the system of the equations l.
func SystemOf(n int, l []Row) System {
	s := System{n: n}
	for _, r := range l {
		s.insert(r)
	}
	s.reduce()
	return s
}

// Solvable reports whether the equations have a solution.
func (s *System) Solvable() bool { return s.rows[s.n] == nil }

// Leading returns the leading variables, in increasing order.
func (s *System) Leading() []int {
	var out []int
	for c := range s.n {
		if s.rows[c] != nil {
			out = append(out, c)
		}
	}
	return out
}

// Row returns the row with the leading variable c.
func (s *System) Row(c int) Row { return s.rows[c] }

// Rows returns the rows, in the order of their leading variables.
func (s *System) Rows() []Row {
	var out []Row
	for _, c := range s.Leading() {
		out = append(out, s.rows[c])
	}
	return out
}

// Same reports whether the equations of both systems have the same solutions.
func (s *System) Same(t *System) bool {
	if !s.Solvable() || !t.Solvable() {
		return s.Solvable() == t.Solvable()
	}
	return sameList(s.rows[:], t.rows[:], Row.Equal)
}

// Reduce returns the primitive row that is 0 at the leading variables, and,
// for all solutions, a positive multiple of r.
func (s *System) Reduce(r Row) Row {
	for _, c := range s.Leading() {
		if r[c].Sign() != 0 {
			r = r.cancel(s.rows[c], c)
		}
	}
	return r.Primitive()
}

// insert adds an equation, less what the rows contain of it.
func (s *System) insert(r Row) {
	for c := range s.n + 1 {
		if r[c].Sign() == 0 {
			continue
		}
		if s.rows[c] == nil {
			s.rows[c] = r
			return
		}
		r = r.cancel(s.rows[c], c)
	}
}

// reduce starts with the last row, so that the rows that it subtracts are
// reduced themselves.
func (s *System) reduce() {
	for c := s.n; c >= 0; c-- {
		if s.rows[c] == nil {
			continue
		}
		for d := range c {
			if s.rows[d] != nil {
				s.rows[d] = s.rows[d].cancel(s.rows[c], c)
			}
		}
		s.rows[c] = s.rows[c].Primitive()
		if s.rows[c][c].Sign() < 0 {
			s.rows[c] = s.rows[c].Neg()
		}
	}
}

// cancel returns a sum of multiples of r and p which is 0 at place c. p is not
// 0 there; the multiple of r has its sign.
func (r Row) cancel(p Row, c int) Row {
	divisor := r[c].Gcd(p[c])
	return r.Times(p[c].Quo(divisor)).Plus(p.Times(r[c].Quo(divisor).Neg())).Primitive()
}
