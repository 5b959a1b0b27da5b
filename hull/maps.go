package hull

import (
	"floodmark/api"
	"floodmark/frac"
	"floodmark/lin"
	"floodmark/rows"
	"floodmark/whole"
)

// Ratio is a number of an image: the value of the form, divided by Low.
type Ratio struct {
	Form api.Form
	Low  int
}

// validMap reports whether m is a valid map from n variables.
func validMap(n int, m []Ratio) bool {
	if n < 0 || n > api.MaxDim || len(m) > api.MaxDim {
		return false
	}
	for _, q := range m {
		if !lin.ValidForm(n, q.Form) || q.Low < 1 || q.Low > api.MaxNum {
			return false
		}
	}
	return true
}

// forms returns the forms of the map over their least common divisor, and
// that divisor.
func forms(m []Ratio) ([]rows.Row, whole.Int) {
	parts := make([]api.Num, len(m))
	for i, q := range m {
		parts[i] = api.Num{Top: 1, Low: q.Low}
	}
	times, low := frac.Common(parts)
	out := make([]rows.Row, len(m))
	for i, q := range m {
		out[i] = rows.Of(q.Form).Times(times[i])
	}
	return out, low
}

// forwards returns the function that turns the rays and lines of a cone into
// those of its image.
func forwards(m []Ratio) func(rows.Row) rows.Row {
	list, low := forms(m)
	return func(r rows.Row) rows.Row {
		out := make(rows.Row, 0, len(list)+1)
		for _, f := range list {
			out = append(out, f.Along(r)) // Add is multiplied by the height
		}
		return append(out, r.Add().Times(low)).Primitive()
	}
}

// backwards returns the function that turns a condition on images into one on
// points in n variables.
func backwards(n int, m []Ratio) func(rows.Row) rows.Row {
	list, low := forms(m)
	return func(r rows.Row) rows.Row {
		out := rows.Unit(n+1, n).Times(r.Add().Times(low))
		for i, f := range list {
			out = out.Plus(f.Times(r[i]))
		}
		return out.Primitive()
	}
}
