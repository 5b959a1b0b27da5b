package proj

import (
	"slices"

	"floodmark/api"
	"floodmark/frac"
	"floodmark/rows"
	"floodmark/simplex"
)

// variables is a list of variables.
type variables []int

// interval returns the variables from first to the one before end.
func interval(first, end int) variables {
	var out variables
	for v := first; v < end; v++ {
		out = append(out, v)
	}
	return out
}

// valid reports whether the list is valid for n variables.
func (l variables) valid(n int) bool {
	for i, v := range l {
		if v < 0 || v >= n || slices.Contains(l[:i], v) {
			return false
		}
	}
	return true
}

// others returns those of n variables that are not in the list.
func (l variables) others(n int) variables {
	var out variables
	for v := range n {
		if !slices.Contains(l, v) {
			out = append(out, v)
		}
	}
	return out
}

// of returns the integers of the row at the variables, followed by the last
// one.
func (l variables) of(r rows.Row) rows.Row {
	var out rows.Row
	for _, v := range l {
		out = append(out, r[v])
	}
	return append(out, r.Add())
}

func (l variables) ofConds(list []simplex.Cond) []simplex.Cond {
	var out []simplex.Cond
	for _, c := range list {
		out = append(out, simplex.Cond{Row: l.of(c.Row), Eq: c.Eq})
	}
	return out
}

// spread returns the conditions of p on these ones of n variables.
func (l variables) spread(p api.Poly, n int) api.Poly {
	out := api.Poly{Dim: n}
	for _, c := range p.Conds {
		f := api.Form{Coef: make([]int, n), Add: c.Form.Add}
		for i := range p.Dim {
			f.Coef[l[i]] = c.Form.Coef[i]
		}
		out.Conds = append(out.Conds, api.Cond{Form: f, Eq: c.Eq})
	}
	return out
}

// fix returns the conditions on the others of n variables where these ones
// have the numbers x.
func (l variables) fix(n int, conds []simplex.Cond, x []api.Num) []simplex.Cond {
	tops, low := frac.Common(x)
	rest := l.others(n)
	var out []simplex.Cond
	for _, c := range conds {
		constant := make(rows.Row, len(rest)+1)
		constant[len(rest)] = l.of(c.Row).Along(tops)
		row := rest.of(c.Row).Times(low).Plus(constant)
		out = append(out, simplex.Cond{Row: row.Primitive(), Eq: c.Eq})
	}
	return out
}

// set sets the numbers of a point at the variables.
func (l variables) set(point, x []api.Num) {
	for i, v := range l {
		point[v] = x[i]
	}
}
