// Package frac provides exact fractions without limits. The layers compute
// with them, and check the limits of numbers only for their results.
package frac

import (
	"floodmark/api"
	"floodmark/whole"
)

// Frac is a reduced fraction: low is greater than 0 and has no divisor in
// common with top. Fractions come from New and Of; the zero value is none.
type Frac struct {
	top, low whole.Int
}

// New returns top / low; low is not 0.
func New(top, low whole.Int) Frac {
	divisor := top.Gcd(low)
	if low.Sign() < 0 {
		divisor = divisor.Neg()
	}
	return Frac{top.Quo(divisor), low.Quo(divisor)}
}

// Of returns the fraction of a valid number.
func Of(a api.Num) Frac { return Frac{whole.Of(a.Top), whole.Of(a.Low)} }

// Num returns the fraction as a number, and whether that is valid.
func (a Frac) Num() (api.Num, bool) {
	top, fits := a.top.Within(api.MaxNum)
	low, fitsToo := a.low.Within(api.MaxNum)
	if !fits || !fitsToo {
		return api.Num{}, false
	}
	return api.Num{Top: top, Low: low}, true
}

// Sign returns -1, 0 or 1 if a is less than, equal to or greater than 0.
func (a Frac) Sign() int { return a.top.Sign() }

// Cmp returns -1, 0 or 1 if a is less than, equal to or greater than b.
func (a Frac) Cmp(b Frac) int { return a.top.Times(b.low).Cmp(b.top.Times(a.low)) }

// Plus returns a + b. What divides top and low of the sum over the product of
// both lows divides their common divisor, so that only short numbers need to
// be reduced.
func (a Frac) Plus(b Frac) Frac {
	common := a.low.Gcd(b.low)
	times := b.low.Quo(common)
	top := a.top.Times(times).Plus(b.top.Times(a.low.Quo(common)))
	divisor := top.Gcd(common)
	return Frac{top.Quo(divisor), a.low.Quo(divisor).Times(times)}
}

// Minus returns a - b.
func (a Frac) Minus(b Frac) Frac { return a.Plus(Frac{b.top.Neg(), b.low}) }

// Times returns a b.
func (a Frac) Times(b Frac) Frac { return New(a.top.Times(b.top), a.low.Times(b.low)) }

// Over returns a / b; b is not 0.
func (a Frac) Over(b Frac) Frac { return New(a.top.Times(b.low), a.low.Times(b.top)) }

// Nums returns the fractions as numbers, and whether all of them are valid.
func Nums(l []Frac) ([]api.Num, bool) {
	out := make([]api.Num, len(l))
	for i, a := range l {
		x, valid := a.Num()
		if !valid {
			return nil, false
		}
		out[i] = x
	}
	return out, true
}

// Common returns the tops of valid numbers over their least common
// denominator, and that denominator.
func Common(l []api.Num) ([]whole.Int, whole.Int) {
	fractions := make([]Frac, len(l))
	for i, a := range l {
		fractions[i] = Of(a)
	}
	return Tops(fractions)
}

// Tops is Common for fractions.
func Tops(l []Frac) ([]whole.Int, whole.Int) {
	low := whole.Of(1)
	for _, a := range l {
		low = low.Quo(low.Gcd(a.low)).Times(a.low)
	}
	tops := make([]whole.Int, len(l))
	for i, a := range l {
		tops[i] = a.top.Times(low.Quo(a.low))
	}
	return tops, low
}
