package run

import (
	"iter"
	"slices"

	"floodmark/api"
	"floodmark/frac"
)

// states yields the states of a run whose Start is initial, in order. If a
// step is not possible or too large, its error comes last.
func states(a api.Auto, r api.Run) iter.Seq2[api.State, api.Errno] {
	return func(yield func(api.State, api.Errno) bool) {
		s, e := copied(r.Start), api.OK
		for _, t := range r.Steps {
			if !yield(s, e) || e != api.OK {
				return
			}
			s, e = after(a, s, moveOf(a, t))
		}
		yield(s, e)
	}
}

// times returns, for each state of the run, the sum of the Times before it.
func times(r api.Run) []frac.Frac {
	sum := frac.Of(api.Num{Low: 1})
	out := []frac.Frac{sum}
	for _, t := range r.Steps {
		sum = sum.Plus(frac.Of(t.Time))
		out = append(out, sum)
	}
	return out
}

// isLast reports whether s is the last state of the list.
func isLast(l []api.State, s api.State) bool {
	if len(l) == 0 {
		return false
	}
	last := l[len(l)-1]
	return last.Loc == s.Loc && slices.Equal(last.Point, s.Point)
}

// within returns the state at a time that lies strictly between those of two
// states of the run.
func within(r api.Run, l []api.State, when []frac.Frac, at frac.Frac) ([]api.State, api.Errno) {
	i := 0
	for when[i+1].Cmp(at) < 0 {
		i++
	}
	point, valid := frac.Nums(along(l[i].Point, at.Minus(when[i]), r.Steps[i].Rates))
	if !valid {
		return nil, api.ErrFull
	}
	return []api.State{{Loc: l[i].Loc, Point: point}}, api.OK
}
