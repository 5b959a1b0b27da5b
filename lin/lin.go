// Package lin provides points, linear forms and systems of linear equations.
package lin

import (
	"floodmark/api"
	"floodmark/frac"
	"floodmark/num"
	"floodmark/rows"
)

// ValidPoint reports whether x is a valid point in n variables.
func ValidPoint(n int, x []api.Num) bool {
	return validDim(n) && len(x) == n && validNums(x)
}

// ValidForm reports whether f is a valid form in n variables.
func ValidForm(n int, f api.Form) bool {
	if !validDim(n) || len(f.Coef) != n || !inLimit(f.Add) {
		return false
	}
	for _, x := range f.Coef {
		if !inLimit(x) {
			return false
		}
	}
	return true
}

// Value returns the value of f for x.
func Value(n int, f api.Form, x []api.Num) (api.Num, api.Errno) {
	if !ValidForm(n, f) || !ValidPoint(n, x) {
		return api.Num{}, api.ErrArg
	}
	one := api.Num{Top: 1, Low: 1}
	factors := make([]api.Num, 0, n+1)
	for i := range n + 1 {
		factors = append(factors, at(f, i))
	}
	return num.Dot(factors, append(x[:n:n], one))
}

// Primitive returns f divided by the greatest common divisor of its integers.
func Primitive(n int, f api.Form) (api.Form, api.Errno) {
	if !ValidForm(n, f) {
		return api.Form{}, api.ErrArg
	}
	g, _ := rows.Of(f).Primitive().Form()
	return g, api.OK
}

// Combine returns the sum of the forms l, multiplied by the numbers m, as a
// form and its positive divisor.
func Combine(n int, l []api.Form, m []api.Num) (api.Form, int, api.Errno) {
	if !validForms(n, l) || !validNums(m) {
		return api.Form{}, 0, api.ErrArg
	}
	if len(l) != len(m) {
		return api.Form{}, 0, api.ErrDim
	}
	sums := make([]api.Num, 0, n+1)
	for i := range n + 1 {
		var column []api.Num
		for _, f := range l {
			column = append(column, at(f, i))
		}
		sum, e := num.Dot(column, m)
		if e != api.OK {
			return api.Form{}, 0, e
		}
		sums = append(sums, sum)
	}
	return overOne(sums)
}

// Echelon returns the echelon form of the equations l, and whether they have a
// solution.
func Echelon(n int, l []api.Form) ([]api.Form, bool, api.Errno) {
	if !validForms(n, l) {
		return nil, false, api.ErrArg
	}
	s := systemOf(n, l)
	if !s.Solvable() {
		return nil, false, api.OK
	}
	var out []api.Form
	for _, r := range s.Rows() {
		f, fits := r.Form()
		if !fits {
			return nil, false, api.ErrFull
		}
		out = append(out, f)
	}
	return out, true, api.OK
}

// Solve returns the solution of the equations l that is 0 for all variables
// that do not lead, and whether there is one.
func Solve(n int, l []api.Form) ([]api.Num, bool, api.Errno) {
	if !validForms(n, l) {
		return nil, false, api.ErrArg
	}
	s := systemOf(n, l)
	if !s.Solvable() {
		return nil, false, api.OK
	}
	x := make([]api.Num, n)
	for i := range x {
		x[i] = api.Num{Low: 1}
	}
	for _, c := range s.Leading() {
		r := s.Row(c)
		a, fits := frac.New(r.Add().Neg(), r[c]).Num()
		if !fits {
			return nil, false, api.ErrFull
		}
		x[c] = a
	}
	return x, true, api.OK
}

// Rank returns the maximum number of forms of l with linearly independent
// coefficients.
func Rank(n int, l []api.Form) (int, api.Errno) {
	if !validForms(n, l) {
		return 0, api.ErrArg
	}
	s := systemOf(n, l)
	return len(s.Leading()), api.OK
}

// Same reports whether the equations l and the equations m have the same
// solutions.
func Same(n int, l, m []api.Form) (bool, api.Errno) {
	if !validForms(n, l) || !validForms(n, m) {
		return false, api.ErrArg
	}
	s, t := systemOf(n, l), systemOf(n, m)
	return s.Same(&t), api.OK
}

func validDim(n int) bool { return 0 <= n && n <= api.MaxDim }

func inLimit(x int) bool { return -api.MaxNum <= x && x <= api.MaxNum }

func validNums(l []api.Num) bool {
	for _, a := range l {
		if !num.Valid(a) {
			return false
		}
	}
	return true
}

func validForms(n int, l []api.Form) bool {
	if !validDim(n) || len(l) > api.MaxConds {
		return false
	}
	for _, f := range l {
		if !ValidForm(n, f) {
			return false
		}
	}
	return true
}

// at returns the coefficient of variable i, or Add if i is the number of
// variables.
func at(f api.Form, i int) api.Num {
	if i == len(f.Coef) {
		return api.Num{Top: f.Add, Low: 1}
	}
	return api.Num{Top: f.Coef[i], Low: 1}
}

func systemOf(n int, l []api.Form) rows.System {
	var list []rows.Row
	for _, f := range l {
		list = append(list, rows.Of(f))
	}
	return rows.SystemOf(n, list)
}

// overOne writes the coefficients and Add of a form over their least common
// denominator.
func overOne(sums []api.Num) (api.Form, int, api.Errno) {
	tops, low := frac.Common(sums)
	g, fits := rows.Row(tops).Form()
	k, fitsToo := low.Within(api.MaxNum)
	if !fits || !fitsToo {
		return api.Form{}, 0, api.ErrFull
	}
	return g, k, api.OK
}
