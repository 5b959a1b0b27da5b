// Package rows provides linear forms with integers of any size, and systems
// of linear equations. The layers compute with them, and check the limits of
// forms only for their results.
package rows

import (
	"floodmark/api"
	"floodmark/whole"
)

// Row is a linear form: the coefficients, followed by Add. A row is never
// modified.
type Row []whole.Int

// Of returns f as a row.
func Of(f api.Form) Row {
	r := make(Row, 0, len(f.Coef)+1)
	for _, x := range f.Coef {
		r = append(r, whole.Of(x))
	}
	return append(r, whole.Of(f.Add))
}

// Unit returns the row of n integers which is 1 at place i and 0 elsewhere.
func Unit(n, i int) Row {
	r := make(Row, n)
	r[i] = whole.Of(1)
	return r
}

// Form returns the row as a form, and whether that is valid.
func (r Row) Form() (api.Form, bool) {
	list, fits := Ints(r)
	if !fits {
		return api.Form{}, false
	}
	last := len(list) - 1
	return api.Form{Coef: list[:last:last], Add: list[last]}, true
}

// Ints returns the integers of a list, and whether none is above MaxNum in
// absolute value.
func Ints(l []whole.Int) ([]int, bool) {
	out := make([]int, len(l))
	for i, x := range l {
		y, fits := x.Within(api.MaxNum)
		if !fits {
			return nil, false
		}
		out[i] = y
	}
	return out, true
}

// Primitive returns the row divided by the greatest common divisor of its
// integers.
func (r Row) Primitive() Row {
	var divisor whole.Int
	for _, x := range r {
		divisor = divisor.Gcd(x)
	}
	if divisor.Sign() == 0 {
		return r
	}
	return r.over(divisor)
}

// Neg returns the opposite row.
func (r Row) Neg() Row {
	out := make(Row, len(r))
	for i, x := range r {
		out[i] = x.Neg()
	}
	return out
}

// Times returns the row multiplied by x.
func (r Row) Times(x whole.Int) Row {
	out := make(Row, len(r))
	for i, y := range r {
		out[i] = y.Times(x)
	}
	return out
}

// Plus returns the sum of two rows in the same variables.
func (r Row) Plus(s Row) Row {
	out := make(Row, len(r))
	for i, x := range r {
		out[i] = x.Plus(s[i])
	}
	return out
}

// over returns the row divided by a divisor of its integers.
func (r Row) over(divisor whole.Int) Row {
	out := make(Row, len(r))
	for i, x := range r {
		out[i] = x.Quo(divisor)
	}
	return out
}

// Equal reports whether r is s.
func (r Row) Equal(s Row) bool { return sameList(r, s, whole.Int.Equal) }

// IsConstant reports whether all coefficients are 0.
func (r Row) IsConstant() bool {
	for _, x := range r[:len(r)-1] {
		if x.Sign() != 0 {
			return false
		}
	}
	return true
}

// Add returns the last integer: the value of the form where all variables
// are 0.
func (r Row) Add() whole.Int { return r[len(r)-1] }

// Along returns the sum of the coefficients times the integers of d: how fast
// the value rises in this direction.
func (r Row) Along(d []whole.Int) whole.Int {
	var sum whole.Int
	for i, x := range d {
		if r[i].Sign() != 0 && x.Sign() != 0 {
			sum = sum.Plus(r[i].Times(x))
		}
	}
	return sum
}

// At returns the value for the point tops / low, multiplied by low.
func (r Row) At(tops []whole.Int, low whole.Int) whole.Int {
	return r.Along(tops).Plus(r.Add().Times(low))
}

// sameList reports whether two lists have equal elements in the same order.
func sameList[T any](l, m []T, equal func(x, y T) bool) bool {
	if len(l) != len(m) {
		return false
	}
	for i, x := range l {
		if !equal(x, m[i]) {
			return false
		}
	}
	return true
}
