package cone

import "math/bits"

const wordBits = 64

// zeros is the set of the conditions that have the value 0 for a ray, as bits.
// All sets of a cone have the same length.
type zeros []uint64

func newZeros(conds int) zeros { return make(zeros, (conds+wordBits-1)/wordBits) }

// firstZeros returns the set of the conditions before the given one.
func firstZeros(conds, before int) zeros {
	z := newZeros(conds)
	for i := range before {
		z.put(i)
	}
	return z
}

// put adds a condition, in place.
func (z zeros) put(cond int) { z[cond/wordBits] |= 1 << (cond % wordBits) }

// and returns the common conditions of both sets.
func (z zeros) and(y zeros) zeros {
	out := make(zeros, len(z))
	for i := range z {
		out[i] = z[i] & y[i]
	}
	return out
}

// shared returns the number of common conditions of both sets.
func (z zeros) shared(y zeros) int {
	n := 0
	for i := range z {
		n += bits.OnesCount64(z[i] & y[i])
	}
	return n
}

// covers reports whether z contains all common conditions of x and y.
func (z zeros) covers(x, y zeros) bool {
	for i := range z {
		if x[i]&y[i]&^z[i] != 0 {
			return false
		}
	}
	return true
}
