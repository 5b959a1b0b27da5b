// Package simplex optimizes rows over polyhedra with the simplex method. Its
// numbers have any size, so that the layers check the limits of numbers only
// for their results.
package simplex

import (
	"floodmark/api"
	"floodmark/frac"
	"floodmark/lin"
	"floodmark/rows"
	"floodmark/whole"
)

// Cond is a condition: the value of the row is 0 if Eq, otherwise at least 0.
type Cond struct {
	Row rows.Row
	Eq  bool
}

// Of returns the conditions of p, and whether p is valid.
func Of(p api.Poly) ([]Cond, bool) {
	if p.Dim < 0 || p.Dim > api.MaxDim || len(p.Conds) > api.MaxConds {
		return nil, false
	}
	out := make([]Cond, 0, len(p.Conds))
	for _, c := range p.Conds {
		if !lin.ValidForm(p.Dim, c.Form) {
			return nil, false
		}
		out = append(out, Cond{rows.Of(c.Form), c.Eq})
	}
	return out, true
}

// OfAll returns the conditions of each polyhedron. It refuses those that are
// not valid, and then those with another number of variables than the first.
func OfAll(l ...api.Poly) ([][]Cond, api.Errno) {
	out := make([][]Cond, 0, len(l))
	e := api.OK
	for _, p := range l {
		conds, valid := Of(p)
		if !valid {
			return nil, api.ErrArg
		}
		if p.Dim != l[0].Dim {
			e = api.ErrDim
		}
		out = append(out, conds)
	}
	if e != api.OK {
		return nil, e
	}
	return out, api.OK
}

// Table describes a corner of the conditions and the edges that meet there:
// each point is the sum of the corner and of the columns, times one number for
// each column, all over low. The number of a column is the value of the
// condition that is its head. Only the rationals of the variables are kept;
// those of the conditions follow from them when they are needed, because there
// may be many more conditions than variables.
type Table struct {
	conds   []Cond
	dropped []bool // for each condition
	heads   []int  // for each column
	columns [][]whole.Int
	corner  []whole.Int
	low     whole.Int
}

// itself is the head of a column c whose number is variable c.
const itself = -1

// New returns the table of conditions on n variables, at the point 0.
func New(n int, conds []Cond) *Table {
	t := &Table{conds: conds, dropped: make([]bool, len(conds)), corner: make([]whole.Int, n), low: whole.Of(1)}
	for c := range n {
		column := make([]whole.Int, n)
		column[c] = whole.Of(1)
		t.columns = append(t.columns, column)
		t.heads = append(t.heads, itself)
	}
	return t
}

// Without returns a copy of the table from which condition i is dropped.
func (t *Table) Without(i int) *Table {
	out := &Table{conds: t.conds, low: t.low}
	out.dropped = append(out.dropped, t.dropped...)
	out.dropped[i] = true
	out.heads = append(out.heads, t.heads...)
	out.corner = append(out.corner, t.corner...)
	for _, column := range t.columns {
		out.columns = append(out.columns, append([]whole.Int{}, column...))
	}
	return out
}

// Point returns the corner.
func (t *Table) Point() []frac.Frac {
	out := make([]frac.Frac, len(t.corner))
	for k, x := range t.corner {
		out[k] = frac.New(x, t.low)
	}
	return out
}

// Value returns the value of r at the corner.
func (t *Table) Value(r rows.Row) frac.Frac { return frac.New(t.value(r), t.low) }

// Multipliers returns, for each condition, the factor with which it is part of
// r; what is left is Value of r.
func (t *Table) Multipliers(r rows.Row) []frac.Frac {
	return t.shares(t.express(r), t.low)
}

// shares returns the factors of the heads in an expressed row, divided by low.
func (t *Table) shares(r rows.Row, low whole.Int) []frac.Frac {
	out := make([]frac.Frac, len(t.conds))
	for i := range out {
		out[i] = frac.Of(api.Num{Low: 1})
	}
	for c, i := range t.heads {
		if i != itself {
			out[i] = frac.New(r[c], low)
		}
	}
	return out
}

func (t *Table) value(r rows.Row) whole.Int { return r.At(t.corner, t.low) }

// express returns the row, times low, in terms of the numbers of the columns.
func (t *Table) express(r rows.Row) rows.Row {
	out := make(rows.Row, 0, len(r))
	for _, column := range t.columns {
		out = append(out, r.Along(column))
	}
	return append(out, t.value(r))
}

// free reports whether the number of column c may be anything.
func (t *Table) free(c int) bool {
	return t.heads[c] == itself || t.dropped[t.heads[c]]
}

// fixed reports whether the number of column c is 0 for all points.
func (t *Table) fixed(c int) bool { return !t.free(c) && t.conds[t.heads[c]].Eq }

// pivot makes condition i the head of column c, so that its value is 0 at the
// new corner. r is the condition, expressed; it is not 0 at c. The numbers
// stay integers, because they are determinants, as low is.
func (t *Table) pivot(i int, r rows.Row, c int) {
	n := len(t.heads)
	for d, column := range t.columns {
		if d != c {
			t.slide(column, r[c], r[d], t.columns[c])
		}
	}
	t.slide(t.corner, r[c], r[n], t.columns[c])
	t.low = r[c]
	t.heads[c] = i
	if t.low.Sign() < 0 {
		t.negate()
	}
}

// slide moves l along the column so far that the condition of a pivot is 0.
func (t *Table) slide(l []whole.Int, times, less whole.Int, column []whole.Int) {
	for k, x := range l {
		l[k] = x.Times(times).Minus(column[k].Times(less)).Quo(t.low)
	}
}

func (t *Table) negate() {
	t.low = t.low.Neg()
	for _, l := range append([][]whole.Int{t.corner}, t.columns...) {
		for k, x := range l {
			l[k] = x.Neg()
		}
	}
}
