package auto

import (
	"slices"

	"floodmark/api"
	"floodmark/poly"
)

// Identical reports whether a and b, valid or not, are identical in all parts.
func Identical(a, b api.Auto) bool {
	return a.Dim == b.Dim && slices.EqualFunc(a.Locs, b.Locs, sameLoc) &&
		slices.EqualFunc(a.Jumps, b.Jumps, sameJump) && slices.EqualFunc(a.Init, b.Init, sameZone)
}

func sameLoc(l, m api.Loc) bool {
	return poly.Identical(l.Inv, m.Inv) && poly.Identical(l.Flow, m.Flow)
}

func sameJump(j, k api.Jump) bool {
	return j.From == k.From && j.To == k.To && j.Label == k.Label &&
		poly.Identical(j.Guard, k.Guard) && slices.EqualFunc(j.Assign, k.Assign, sameAssign)
}

func sameAssign(s, t api.Assign) bool {
	return s.Kind == t.Kind && s.Low == t.Low &&
		s.Form.Add == t.Form.Add && slices.Equal(s.Form.Coef, t.Form.Coef)
}

func sameZone(z, y api.Zone) bool { return z.Loc == y.Loc && poly.Identical(z.Set, y.Set) }
