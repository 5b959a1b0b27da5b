package cone

import "math/bits"

const wordBits = 64

// zeros is the set of the conditions that have the value 0 for a ray, as bits.
// Words that are missing at the end are 0.
type zeros []uint64

// firstZeros returns the set of the conditions before the given one.
func firstZeros(before int) zeros {
	var z zeros
	for i := range before {
		z.put(i)
	}
	return z
}

// put adds a condition, in place.
func (z *zeros) put(cond int) {
	for len(*z) <= cond/wordBits {
		*z = append(*z, 0)
	}
	(*z)[cond/wordBits] |= 1 << (cond % wordBits)
}

// and returns the common conditions of both sets.
func (z zeros) and(y zeros) zeros {
	out := make(zeros, min(len(z), len(y)))
	for i := range out {
		out[i] = z[i] & y[i]
	}
	return out
}

// shared returns the number of common conditions of both sets.
func (z zeros) shared(y zeros) int {
	n := 0
	for i := range min(len(z), len(y)) {
		n += bits.OnesCount64(z[i] & y[i])
	}
	return n
}

// covers reports whether z contains all common conditions of x and y.
func (z zeros) covers(x, y zeros) bool {
	for i := range min(len(x), len(y)) {
		both := x[i] & y[i]
		if i < len(z) {
			both &^= z[i]
		}
		if both != 0 {
			return false
		}
	}
	return true
}
