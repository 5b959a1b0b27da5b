package product

import "floodmark/api"

// widener extends what belongs to one part to the variables of both.
type widener struct {
	forms [2]func(f api.Form) api.Form // for each part
	dim   int
	full  bool // whether a polyhedron has had too many conditions
}

func widenerOf(n, m int) *widener {
	return &widener{forms: [2]func(f api.Form) api.Form{extended(0, m), extended(n, 0)}, dim: n + m}
}

// extended returns the function that puts coefficients 0 before and behind
// those of a form.
func extended(before, behind int) func(f api.Form) api.Form {
	return func(f api.Form) api.Form {
		out := api.Form{Coef: make([]int, before+len(f.Coef)+behind), Add: f.Add}
		copy(out.Coef[before:], f.Coef)
		return out
	}
}

// both returns the polyhedron with the conditions of both parts.
func (w *widener) both(p, q api.Poly) api.Poly {
	out := api.Poly{Dim: w.dim}
	for side, part := range []api.Poly{p, q} {
		for _, c := range part.Conds {
			out.Conds = append(out.Conds, api.Cond{Form: w.forms[side](c.Form), Eq: c.Eq})
		}
	}
	w.full = w.full || len(out.Conds) > api.MaxConds
	return out
}

// assigns returns the assignments of one part.
func (w *widener) assigns(side int, l []api.Assign) []api.Assign {
	out := make([]api.Assign, len(l))
	for v, s := range l {
		out[v] = s
		if s.Kind == api.Set {
			out[v].Form = w.forms[side](s.Form)
		}
	}
	return out
}
