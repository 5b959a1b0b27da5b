package whole

import "math/bits"

// digits is a natural number in base 2^32: the lowest digit comes first, and
// the last digit is not 0, so that equal numbers are equal lists.
type digits []uint32

func natural(n uint64) digits {
	return digits{uint32(n), uint32(n >> 32)}.trim()
}

func (d digits) trim() digits {
	for len(d) > 0 && d[len(d)-1] == 0 {
		d = d[:len(d)-1]
	}
	return d
}

// word returns the number, which has at most two digits.
func (d digits) word() uint64 {
	var n uint64
	for i, x := range d {
		n |= uint64(x) << (32 * i)
	}
	return n
}

func (d digits) cmp(e digits) int {
	if len(d) != len(e) {
		return sign(len(d) - len(e))
	}
	for i := len(d) - 1; i >= 0; i-- {
		if d[i] < e[i] {
			return -1
		}
		if d[i] > e[i] {
			return 1
		}
	}
	return 0
}

func (d digits) plus(e digits) digits {
	if len(d) < len(e) {
		d, e = e, d
	}
	out := make(digits, len(d)+1)
	copy(out, d)
	out[len(d)] = out[:len(d)].increase(e)
	return out.trim()
}

// increase adds e, which has at most as many digits, in place, and returns
// the carry.
func (d digits) increase(e digits) uint32 {
	var carry uint32
	for i := range d {
		if i >= len(e) && carry == 0 {
			break
		}
		var x uint32
		if i < len(e) {
			x = e[i]
		}
		d[i], carry = bits.Add32(d[i], x, carry)
	}
	return carry
}

// minus returns the difference; e is at most d.
func (d digits) minus(e digits) digits {
	out := make(digits, len(d))
	copy(out, d)
	out.decrease(e)
	return out.trim()
}

// decrease subtracts e, which is at most d, in place.
func (d digits) decrease(e digits) {
	var borrow uint32
	for i := range d {
		if i >= len(e) && borrow == 0 {
			break
		}
		var x uint32
		if i < len(e) {
			x = e[i]
		}
		d[i], borrow = bits.Sub32(d[i], x, borrow)
	}
}

func (d digits) times(e digits) digits {
	out := make(digits, len(d)+len(e))
	for i, x := range d {
		var carry uint64
		for j, y := range e {
			t := uint64(x)*uint64(y) + uint64(out[i+j]) + carry
			out[i+j] = uint32(t)
			carry = t >> 32
		}
		out[i+len(e)] = uint32(carry)
	}
	return out.trim()
}

// left returns the number times 2^n.
func (d digits) left(n int) digits {
	skip, part := n/32, n%32
	out := make(digits, len(d)+skip+1)
	var carry uint64
	for i, x := range d {
		t := uint64(x)<<part | carry
		out[i+skip] = uint32(t)
		carry = t >> 32
	}
	out[len(d)+skip] = uint32(carry)
	return out.trim()
}

// right returns the number divided by 2^n, rounded down.
func (d digits) right(n int) digits {
	out := make(digits, len(d))
	copy(out, d)
	return out.shrink(n)
}

// shrink is right in place.
func (d digits) shrink(n int) digits {
	skip, part := n/32, n%32
	for i := skip; i < len(d); i++ {
		t := uint64(d[i])
		if i+1 < len(d) {
			t |= uint64(d[i+1]) << 32
		}
		d[i-skip] = uint32(t >> part)
	}
	return d[:max(len(d)-skip, 0)].trim()
}

// zeros returns how often 2 divides the number, which is not 0.
func (d digits) zeros() int {
	i := 0
	for d[i] == 0 {
		i++
	}
	return 32*i + bits.TrailingZeros32(d[i])
}

// quoRem returns the quotient, rounded down, and the rest; e is not 0.
func (d digits) quoRem(e digits) (digits, digits) {
	if d.cmp(e) < 0 {
		return nil, d
	}
	if len(e) == 1 {
		return d.quoRemDigit(e[0])
	}
	// The estimate of a digit is good only if the top bit of the divisor is set.
	shift := bits.LeadingZeros32(e[len(e)-1])
	v := e.left(shift)
	u := make(digits, len(d)+1)
	copy(u, d.left(shift))
	quo := make(digits, len(d)-len(e)+1)
	for j := len(quo) - 1; j >= 0; j-- {
		quo[j] = u[j : j+len(v)+1].reduce(v)
	}
	return quo.trim(), u.trim().shrink(shift)
}

func (d digits) quoRemDigit(e uint32) (digits, digits) {
	quo := make(digits, len(d))
	var rest uint32
	for i := len(d) - 1; i >= 0; i-- {
		quo[i], rest = bits.Div32(rest, d[i], e)
	}
	return quo.trim(), natural(uint64(rest))
}

// reduce subtracts from u, in place, the greatest multiple of v that is at
// most u, and returns the factor. v has at least two digits and its top bit is
// set; u has one digit more and is less than v times 2^32.
func (u digits) reduce(v digits) uint32 {
	factor := u.estimate(v)
	var carry uint64
	var borrow uint32
	for i, x := range v {
		t := uint64(x)*factor + carry
		carry = t >> 32
		u[i], borrow = bits.Sub32(u[i], uint32(t), borrow)
	}
	n := len(v)
	u[n], borrow = bits.Sub32(u[n], uint32(carry), borrow)
	if borrow != 0 {
		factor--
		u[n] += u[:n].increase(v)
	}
	return uint32(factor)
}

// estimate returns the factor of reduce or one more, from the top digits alone.
func (u digits) estimate(v digits) uint64 {
	n := len(v)
	top := uint64(u[n])<<32 | uint64(u[n-1])
	factor, rest := top/uint64(v[n-1]), top%uint64(v[n-1])
	for factor>>32 != 0 || factor*uint64(v[n-2]) > rest<<32|uint64(u[n-2]) {
		factor--
		rest += uint64(v[n-1])
		if rest>>32 != 0 {
			break
		}
	}
	return factor
}

// gcd returns the greatest common divisor of two numbers of which at least
// one is not 0. It is binary because each step of Euclid's method would cost
// a long division and new memory; one such step makes the lengths equal.
func (d digits) gcd(e digits) digits {
	if len(d) < len(e) {
		d, e = e, d
	}
	if len(e) == 0 {
		return d
	}
	_, rest := d.quoRem(e)
	if len(rest) == 0 {
		return e
	}
	twos, restTwos := e.zeros(), rest.zeros()
	odd := oddGcd(e.right(twos), rest.right(restTwos))
	return odd.left(min(twos, restTwos))
}

// oddGcd is gcd for odd numbers; it uses their memory.
func oddGcd(a, b digits) digits {
	for len(a) > 2 || len(b) > 2 {
		switch a.cmp(b) {
		case 0:
			return a
		case -1:
			a, b = b, a
		}
		a.decrease(b)
		a = a.trim()
		a = a.shrink(a.zeros())
	}
	return natural(gcdWords(a.word(), b.word()))
}

func gcdWords(a, b uint64) uint64 {
	for b != 0 {
		a, b = b, a%b
	}
	return a
}
