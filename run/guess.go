package run

import (
	"floodmark/api"
	"floodmark/frac"
	"floodmark/rows"
	"floodmark/simplex"
	"floodmark/whole"
)

// guesses returns numbers for Guess with which the jump is possible in s.
func guesses(a api.Auto, s api.State, j api.Jump) ([]frac.Frac, api.Errno) {
	if !starts(j, s) {
		return nil, api.ErrNone
	}
	values, guessed := settled(j, s.Point)
	table := simplex.New(len(guessed), left(a.Locs[j.To].Inv, values, guessed))
	if _, is := table.Feasible(); !is {
		return nil, api.ErrNone
	}
	if _, valid := frac.Nums(values); !valid {
		return nil, api.ErrFull
	}
	return table.Point(), api.OK
}

// guessedBy returns the variables that the jump guesses.
func guessedBy(j api.Jump) []int {
	var out []int
	for v, s := range j.Assign {
		if s.Kind == api.Guess {
			out = append(out, v)
		}
	}
	return out
}

// settled returns the values of the variables after the jump from the point,
// and the variables that it guesses, for which 0 stands there.
func settled(j api.Jump, x []api.Num) ([]frac.Frac, []int) {
	tops, low := frac.Common(x)
	out := make([]frac.Frac, len(x))
	for v, s := range j.Assign {
		switch s.Kind {
		case api.Keep:
			out[v] = frac.Of(x[v])
		case api.Set:
			out[v] = frac.New(rows.Of(s.Form).At(tops, low), low.Times(whole.Of(s.Low)))
		default:
			out[v] = frac.Of(api.Num{Low: 1})
		}
	}
	return out, guessedBy(j)
}

// left returns what p says about the guessed variables if the other ones have
// these values.
func left(p api.Poly, values []frac.Frac, guessed []int) []simplex.Cond {
	tops, low := frac.Tops(values)
	var out []simplex.Cond
	for _, c := range p.Conds {
		full := rows.Of(c.Form)
		var r rows.Row
		for _, v := range guessed {
			r = append(r, full[v].Times(low))
		}
		out = append(out, simplex.Cond{Row: append(r, full.At(tops, low)), Eq: c.Eq})
	}
	return out
}
