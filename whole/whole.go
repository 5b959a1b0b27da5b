// Package whole provides integers of any size, because the intermediate
// results of exact arithmetic exceed every machine integer.
package whole

import "math/bits"

// limit bounds the absolute value of small integers, so that the sum of two of
// them fits into an int.
const limit = 1 << 62

// Int is an integer of any size; the zero value is 0. An integer is never
// modified. Nearly all integers are small, and a list of digits costs memory,
// so that only the other ones have one.
type Int struct {
	small int    // the integer, if it is small; otherwise only its sign counts
	large digits // the absolute value of an integer that is not small
}

// Of returns n.
func Of(n int) Int {
	if -limit < n && n < limit {
		return Int{small: n}
	}
	return signed(n < 0, natural(size(n)))
}

// Decimal returns the integer with the given decimal digits.
func Decimal(text string) Int {
	const most = 18 // 10^18 is small
	var n Int
	for len(text) > 0 {
		size := min(len(text), most)
		part, scale := 0, 1
		for i := range size {
			part = 10*part + int(text[i]-'0')
			scale *= 10
		}
		n = n.Times(Of(scale)).Plus(Of(part))
		text = text[size:]
	}
	return n
}

// signed returns the integer with the given absolute value.
func signed(negative bool, d digits) Int {
	small := 1
	if len(d) <= 2 && d.word() < limit {
		small, d = int(d.word()), nil
	}
	if negative {
		small = -small
	}
	return Int{small, d}
}

func size(n int) uint64 {
	if n < 0 {
		return -uint64(n)
	}
	return uint64(n)
}

func sign(n int) int {
	switch {
	case n < 0:
		return -1
	case n > 0:
		return 1
	}
	return 0
}

func bothSmall(a, b Int) bool { return len(a.large) == 0 && len(b.large) == 0 }

// digits returns the absolute value.
func (a Int) digits() digits {
	if len(a.large) > 0 {
		return a.large
	}
	return natural(size(a.small))
}

// Within returns a as an int and true, if its absolute value is at most bound,
// which is from 0 to 2^61; otherwise 0 and false.
func (a Int) Within(bound int) (int, bool) {
	if len(a.large) > 0 || a.small > bound || a.small < -bound {
		return 0, false
	}
	return a.small, true
}

// Sign returns -1, 0 or 1 if a is less than, equal to or greater than 0.
func (a Int) Sign() int { return sign(a.small) }

// Neg returns -a.
func (a Int) Neg() Int { return Int{-a.small, a.large} }

// Abs returns the absolute value.
func (a Int) Abs() Int {
	if a.small < 0 {
		return a.Neg()
	}
	return a
}

// Equal reports whether a is b.
func (a Int) Equal(b Int) bool {
	return a.small == b.small && a.large.cmp(b.large) == 0
}

// Cmp returns -1, 0 or 1 if a is less than, equal to or greater than b.
func (a Int) Cmp(b Int) int { return a.Minus(b).Sign() }

// Plus returns a + b.
func (a Int) Plus(b Int) Int {
	if bothSmall(a, b) {
		return Of(a.small + b.small)
	}
	x, y := a.digits(), b.digits()
	if (a.small < 0) == (b.small < 0) {
		return signed(a.small < 0, x.plus(y))
	}
	if x.cmp(y) < 0 {
		return signed(b.small < 0, y.minus(x))
	}
	return signed(a.small < 0, x.minus(y))
}

// Minus returns a - b.
func (a Int) Minus(b Int) Int { return a.Plus(b.Neg()) }

// Times returns a b.
func (a Int) Times(b Int) Int {
	negative := (a.small < 0) != (b.small < 0)
	if bothSmall(a, b) {
		high, low := bits.Mul64(size(a.small), size(b.small))
		if high == 0 && low < limit {
			return Int{small: a.small * b.small}
		}
	}
	return signed(negative, a.digits().times(b.digits()))
}

// QuoRem returns the quotient, rounded towards 0, and the rest, which is 0 or
// has the sign of a. b is not 0.
func (a Int) QuoRem(b Int) (Int, Int) {
	if bothSmall(a, b) {
		return Int{small: a.small / b.small}, Int{small: a.small % b.small}
	}
	q, r := a.digits().quoRem(b.digits())
	return signed((a.small < 0) != (b.small < 0), q), signed(a.small < 0, r)
}

// Quo returns the quotient of QuoRem.
func (a Int) Quo(b Int) Int {
	q, _ := a.QuoRem(b)
	return q
}

// Gcd returns the greatest common divisor, which is 0 if both are 0.
func (a Int) Gcd(b Int) Int {
	if bothSmall(a, b) {
		return Int{small: int(gcdWords(size(a.small), size(b.small)))}
	}
	return signed(false, a.digits().gcd(b.digits()))
}
