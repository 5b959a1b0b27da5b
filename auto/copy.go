package auto

import (
	"slices"

	"floodmark/api"
)

// copiedLoc returns a copy that shares no memory with l. The functions that
// follow do the same.
func copiedLoc(l api.Loc) api.Loc { return api.Loc{Inv: copiedPoly(l.Inv), Flow: copiedPoly(l.Flow)} }

func copiedJump(j api.Jump) api.Jump {
	j.Guard = copiedPoly(j.Guard)
	j.Assign = each(j.Assign, copiedAssign)
	return j
}

func copiedAssign(s api.Assign) api.Assign {
	s.Form = copiedForm(s.Form)
	return s
}

func copiedPoly(p api.Poly) api.Poly {
	return api.Poly{Dim: p.Dim, Conds: each(p.Conds, func(c api.Cond) api.Cond {
		return api.Cond{Form: copiedForm(c.Form), Eq: c.Eq}
	})}
}

func copiedForm(f api.Form) api.Form { return api.Form{Coef: slices.Clone(f.Coef), Add: f.Add} }

// each returns what the function makes of the elements.
func each[S, T any](l []S, of func(S) T) []T {
	var out []T
	for _, x := range l {
		out = append(out, of(x))
	}
	return out
}
