package lp

import (
	"floodmark/api"
	"floodmark/frac"
	"floodmark/rows"
	"floodmark/simplex"
	"floodmark/whole"
)

// minimum returns the minimum of r on the polyhedron of the table.
func minimum(t *simplex.Table, r rows.Row) (Result, api.Errno) {
	kind, void, ray := solve(t, r)
	makers := [...]func() (Result, bool){
		Empty: func() (Result, bool) {
			mult, fits := frac.Nums(void)
			return Result{Mult: mult}, fits
		},
		Unbounded: func() (Result, bool) {
			point, fits := frac.Nums(t.Point())
			direction, fitsToo := rows.Ints(rows.Row(ray).Primitive())
			return Result{Point: point, Ray: direction}, fits && fitsToo
		},
		Finite: func() (Result, bool) {
			value, valueFits := t.Value(r).Num()
			point, pointFits := frac.Nums(t.Point())
			mult, multFits := frac.Nums(t.Multipliers(r))
			return Result{Value: value, Point: point, Mult: mult}, valueFits && pointFits && multFits
		},
	}
	out, fits := makers[kind]()
	if !fits {
		return Result{}, api.ErrFull
	}
	out.Kind = kind
	return out, api.OK
}

// solve moves the table to where r is least. It returns the kind of the
// outcome with the multipliers of an empty polyhedron, or with the direction
// in which r falls without end.
func solve(t *simplex.Table, r rows.Row) (int, []frac.Frac, []whole.Int) {
	if void, is := t.Feasible(); !is {
		return Empty, void, nil
	}
	if ray, is := t.Minimize(r); !is {
		return Unbounded, nil, ray
	}
	return Finite, nil, nil
}
