// Package num provides rational numbers.
package num

import (
	"strconv"
	"strings"

	"floodmark/api"
	"floodmark/frac"
	"floodmark/whole"
)

const maxText = 200

// Valid reports whether a is a reduced fraction within the limits.
func Valid(a api.Num) bool {
	return 1 <= a.Low && a.Low <= api.MaxNum &&
		-api.MaxNum <= a.Top && a.Top <= api.MaxNum &&
		whole.Of(a.Top).Gcd(whole.Of(a.Low)).Equal(whole.Of(1))
}

// Make returns top / low.
func Make(top, low int) (api.Num, api.Errno) {
	if low == 0 {
		return api.Num{}, api.ErrRange
	}
	return limited(frac.New(whole.Of(top), whole.Of(low)))
}

// Add returns a + b.
func Add(a, b api.Num) (api.Num, api.Errno) { return apply(frac.Frac.Plus, a, b) }

// Sub returns a - b.
func Sub(a, b api.Num) (api.Num, api.Errno) { return apply(frac.Frac.Minus, a, b) }

// Mul returns a b.
func Mul(a, b api.Num) (api.Num, api.Errno) { return apply(frac.Frac.Times, a, b) }

// Div returns a / b.
func Div(a, b api.Num) (api.Num, api.Errno) {
	if Valid(a) && Valid(b) && b.Top == 0 {
		return api.Num{}, api.ErrNone
	}
	return apply(frac.Frac.Over, a, b)
}

// Cmp returns -1, 0 or 1 if a is less than, equal to or greater than b.
func Cmp(a, b api.Num) (int, api.Errno) {
	if !Valid(a) || !Valid(b) {
		return 0, api.ErrArg
	}
	return frac.Of(a).Cmp(frac.Of(b)), api.OK
}

// Floor returns the greatest integer that is at most a.
func Floor(a api.Num) (int, api.Errno) {
	if !Valid(a) {
		return 0, api.ErrArg
	}
	return floor(a), api.OK
}

// Ceil returns the least integer that is at least a.
func Ceil(a api.Num) (int, api.Errno) {
	if !Valid(a) {
		return 0, api.ErrArg
	}
	return ceil(a), api.OK
}

// Between returns, of the numbers from a to b with the least Low, the one
// with the least absolute value.
func Between(a, b api.Num) (api.Num, api.Errno) {
	if !Valid(a) || !Valid(b) {
		return api.Num{}, api.ErrArg
	}
	if frac.Of(a).Cmp(frac.Of(b)) > 0 {
		return api.Num{}, api.ErrRange
	}
	if a.Top > 0 {
		return simplest(a, b), api.OK
	}
	if b.Top < 0 {
		return negative(simplest(negative(b), negative(a))), api.OK
	}
	return api.Num{Low: 1}, api.OK
}

// Dot returns the sum of the products of corresponding numbers.
func Dot(l, m []api.Num) (api.Num, api.Errno) {
	if !allValid(l) || !allValid(m) {
		return api.Num{}, api.ErrArg
	}
	if len(l) != len(m) {
		return api.Num{}, api.ErrDim
	}
	return limited(products(l, m))
}

// Print returns the printed form of a.
func Print(a api.Num) (string, api.Errno) {
	if !Valid(a) {
		return "", api.ErrArg
	}
	text := strconv.Itoa(a.Top)
	if a.Low != 1 {
		text += "/" + strconv.Itoa(a.Low)
	}
	return text, api.OK
}

// Parse returns the number that text denotes.
func Parse(text string) (api.Num, api.Errno) {
	unsigned, isNegative := strings.CutPrefix(text, "-")
	top, low, hasLow := strings.Cut(unsigned, "/")
	if !hasLow {
		low = "1"
	}
	if !isDigits(top) || !isDigits(low) || strings.Trim(low, "0") == "" {
		return api.Num{}, api.ErrForm
	}
	if len(text) > maxText {
		return api.Num{}, api.ErrFull
	}
	above := whole.Decimal(top)
	if isNegative {
		above = above.Neg()
	}
	return limited(frac.New(above, whole.Decimal(low)))
}

// apply returns the result of an operation on two numbers.
func apply(operation func(a, b frac.Frac) frac.Frac, a, b api.Num) (api.Num, api.Errno) {
	if !Valid(a) || !Valid(b) {
		return api.Num{}, api.ErrArg
	}
	return limited(operation(frac.Of(a), frac.Of(b)))
}

func limited(a frac.Frac) (api.Num, api.Errno) {
	x, fits := a.Num()
	if !fits {
		return api.Num{}, api.ErrFull
	}
	return x, api.OK
}

func allValid(l []api.Num) bool {
	for _, a := range l {
		if !Valid(a) {
			return false
		}
	}
	return true
}

// products adds the products up by halves, because the fractions of a long
// sum can be as long as the sum, and few of them should be.
func products(l, m []api.Num) frac.Frac {
	switch n := len(l); n {
	case 0:
		return frac.Of(api.Num{Low: 1})
	case 1:
		return frac.Of(l[0]).Times(frac.Of(m[0]))
	default:
		return products(l[:n/2], m[:n/2]).Plus(products(l[n/2:], m[n/2:]))
	}
}

func negative(a api.Num) api.Num { return api.Num{Top: -a.Top, Low: a.Low} }

// floor rounds down; the quotient of two ints is rounded towards 0.
func floor(a api.Num) int {
	if a.Top%a.Low < 0 {
		return a.Top/a.Low - 1
	}
	return a.Top / a.Low
}

func ceil(a api.Num) int { return -floor(negative(a)) }

// simplest returns the number from a to b that has the least Low and, with it,
// the least Top; a is greater than 0. If there is no integer from a to b, all
// these numbers have the same integer part, and the reciprocal of the simplest
// rest is the simplest one of the reciprocals. Nothing overflows, because the
// result has no greater Top or Low than a.
func simplest(a, b api.Num) api.Num {
	if n := ceil(a); n <= floor(b) {
		return api.Num{Top: n, Low: 1}
	}
	n := floor(a)
	x := simplest(api.Num{Top: b.Low, Low: b.Top - n*b.Low}, api.Num{Top: a.Low, Low: a.Top - n*a.Low})
	return api.Num{Top: n*x.Top + x.Low, Low: x.Top}
}

func isDigits(text string) bool {
	return text != "" && strings.Trim(text, "0123456789") == ""
}
