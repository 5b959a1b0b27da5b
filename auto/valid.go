package auto

import (
	"floodmark/api"
	"floodmark/lin"
	"floodmark/poly"
)

const maxLabel = 20

// Valid reports whether a is valid.
func Valid(a api.Auto) bool {
	return 0 <= a.Dim && a.Dim <= api.MaxVars &&
		1 <= len(a.Locs) && len(a.Locs) <= api.MaxLocs &&
		len(a.Jumps) <= api.MaxJumps && len(a.Init) <= api.MaxLocs &&
		every(a.Jumps, func(j api.Jump) bool { return validJump(a, j) }) &&
		every(a.Init, func(z api.Zone) bool { return isLoc(a, z.Loc) && isSet(a, z.Set) }) &&
		every(a.Locs, func(l api.Loc) bool { return isSet(a, l.Inv) && isSet(a, l.Flow) && isFlow(l.Flow) })
}

func validJump(a api.Auto, j api.Jump) bool {
	return isLoc(a, j.From) && isLoc(a, j.To) &&
		0 <= j.Label && j.Label <= maxLabel &&
		isSet(a, j.Guard) && len(j.Assign) == a.Dim &&
		every(j.Assign, func(s api.Assign) bool { return validAssign(a, s) })
}

func validAssign(a api.Auto, s api.Assign) bool {
	switch s.Kind {
	case api.Set:
		return lin.ValidForm(a.Dim, s.Form) && 1 <= s.Low && s.Low <= api.MaxNum
	case api.Keep, api.Guess:
		return len(s.Form.Coef) == 0 && s.Form.Add == 0 && s.Low == 0
	}
	return false
}

func isLoc(a api.Auto, l int) bool { return 0 <= l && l < len(a.Locs) }

// isSet reports whether p is a valid polyhedron in the variables of a.
func isSet(a api.Auto, p api.Poly) bool { return p.Dim == a.Dim && poly.Valid(p) }

// isFlow reports whether p, which is valid, is bounded and not empty.
func isFlow(p api.Poly) bool {
	empty, _ := poly.Empty(p)
	bounded, _ := poly.Bounded(p)
	return bounded && !empty
}

// every reports whether all elements pass the test.
func every[T any](l []T, test func(T) bool) bool {
	for _, x := range l {
		if !test(x) {
			return false
		}
	}
	return true
}
