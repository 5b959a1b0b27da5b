package lin

import (
	"floodmark/api"
	"floodmark/whole"
)

// row is an equation: the coefficients, followed by Add.
type row []whole.Int

// table is a system of equations in n variables. The row at place c has its
// first integer that is not 0 there: c is its leading variable, or n for an
// equation that only consists of Add and has no solution. Places without such
// a row are nil.
type table struct {
	n    int
	rows [api.MaxDim + 1]row
}

func rowOf(f api.Form) row {
	r := make(row, 0, len(f.Coef)+1)
	for _, x := range f.Coef {
		r = append(r, whole.Of(x))
	}
	return append(r, whole.Of(f.Add))
}

// form returns the row as a form, and whether that is valid.
func (r row) form() (api.Form, bool) {
	list := make([]int, len(r))
	for i, x := range r {
		y, fits := x.Within(api.MaxNum)
		if !fits {
			return api.Form{}, false
		}
		list[i] = y
	}
	last := len(list) - 1
	return api.Form{Coef: list[:last:last], Add: list[last]}, true
}

// primitive returns the row divided by the greatest common divisor of its
// integers.
func (r row) primitive() row {
	var divisor whole.Int
	for _, x := range r {
		divisor = divisor.Gcd(x)
	}
	if divisor.Sign() == 0 {
		return r
	}
	return r.over(divisor)
}

// over returns the row divided by a divisor of its integers.
func (r row) over(divisor whole.Int) row {
	out := make(row, len(r))
	for i, x := range r {
		out[i] = x.Quo(divisor)
	}
	return out
}

// cancel returns a sum of multiples of r and p, that of r not 0, which is 0 at
// place c. p is not 0 there.
func (r row) cancel(p row, c int) row {
	divisor := r[c].Gcd(p[c])
	times, less := p[c].Quo(divisor), r[c].Quo(divisor)
	out := make(row, len(r))
	for i := range out {
		out[i] = r[i].Times(times).Minus(p[i].Times(less))
	}
	return out.primitive()
}

// tableOf returns the reduced table of the equations l: each row is primitive,
// its leading integer is positive, and the other rows are 0 there. Equal
// systems with a solution have equal tables.
func tableOf(n int, l []api.Form) table {
	t := table{n: n}
	for _, f := range l {
		t.insert(rowOf(f))
	}
	t.reduce()
	return t
}

// insert adds an equation, less what the rows of the table contain of it.
func (t *table) insert(r row) {
	for c := range t.n + 1 {
		if r[c].Sign() == 0 {
			continue
		}
		if t.rows[c] == nil {
			t.rows[c] = r
			return
		}
		r = r.cancel(t.rows[c], c)
	}
}

// reduce starts with the last row, so that the rows that it subtracts are
// reduced themselves.
func (t *table) reduce() {
	for c := t.n; c >= 0; c-- {
		if t.rows[c] == nil {
			continue
		}
		for d := range c {
			if t.rows[d] != nil {
				t.rows[d] = t.rows[d].cancel(t.rows[c], c)
			}
		}
		t.rows[c] = t.rows[c].primitive()
		if t.rows[c][c].Sign() < 0 {
			t.rows[c] = t.rows[c].over(whole.Of(-1))
		}
	}
}

func (t *table) solvable() bool { return t.rows[t.n] == nil }

// leading returns the leading variables, in increasing order.
func (t *table) leading() []int {
	var out []int
	for c := range t.n {
		if t.rows[c] != nil {
			out = append(out, c)
		}
	}
	return out
}

// same reports whether the equations of both tables have the same solutions.
func (t *table) same(u *table) bool {
	if !t.solvable() || !u.solvable() {
		return t.solvable() == u.solvable()
	}
	return sameList(t.rows[:], u.rows[:], func(r, s row) bool {
		return sameList(r, s, whole.Int.Equal)
	})
}

// sameList reports whether two lists have equal elements in the same order.
func sameList[T any](l, m []T, equal func(x, y T) bool) bool {
	if len(l) != len(m) {
		return false
	}
	for i, x := range l {
		if !equal(x, m[i]) {
			return false
		}
	}
	return true
}
