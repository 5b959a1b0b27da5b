package elapse

import (
	"floodmark/api"
	"floodmark/cone"
	"floodmark/frac"
	"floodmark/rows"
	"floodmark/simplex"
	"floodmark/whole"
)

// turning makes a direction of the ray of a point.
type turning func(rate rows.Row) rows.Row

// ahead returns the direction in which points move with the rate.
func ahead(rate rows.Row) rows.Row {
	n := len(rate) - 1
	return append(rate[:n:n], whole.Int{})
}

// back returns the direction from which points come with the rate.
func back(rate rows.Row) rows.Row { return ahead(rate.Neg()) }

// distances returns the cone of the ways that points move with the rates, in n
// variables, in a time that is at most t.
func distances(n int, rates cone.Cone, t api.Num) cone.Cone {
	origin := cone.Cone{Rays: []rows.Row{rows.Unit(n+1, n)}}
	return cone.Merge(origin, rates.Map(func(r rows.Row) rows.Row {
		height := r.Add().Times(whole.Of(t.Low))
		return append(r[:n].Times(whole.Of(t.Top)), height).Primitive()
	}))
}

// firstEnd returns the time after which a point of the polyhedron, moving with
// the rates, first violates a condition, and whether it ever does.
func firstEnd(conds []simplex.Cond, x, rates []api.Num) (frac.Frac, bool) {
	point, low := frac.Common(x)
	direction, rateLow := frac.Common(rates)
	var best frac.Frac
	found := false
	for _, c := range conds {
		rise := c.Row.Along(direction)
		if rise.Sign() == 0 || rise.Sign() > 0 && !c.Eq {
			continue
		}
		value := c.Row.At(point, low)
		end := frac.New(value.Times(rateLow), rise.Times(low).Neg())
		if !found || end.Cmp(best) < 0 {
			best, found = end, true
		}
	}
	return best, found
}
