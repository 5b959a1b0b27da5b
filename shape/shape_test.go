package shape

import (
	"reflect"
	"testing"

	"floodmark/api"
	"floodmark/rows"
	"floodmark/simplex"
	"floodmark/whole"
)

func row(l ...int) rows.Row {
	var r rows.Row
	for _, x := range l {
		r = append(r, whole.Of(x))
	}
	return r
}

func least(l ...int) simplex.Cond { return simplex.Cond{Row: row(l...)} }

func cond(eq bool, add int, coef ...int) api.Cond {
	return api.Cond{Form: api.Form{Coef: coef, Add: add}, Eq: eq}
}

func TestCanon(t *testing.T) {
	conds := []simplex.Cond{least(1, 1, -2), least(-2, -2, 4), least(1, 0, 0), least(0, -1, 3)}
	p, e := Canon(2, conds)
	want := api.Poly{Dim: 2, Conds: []api.Cond{cond(true, -2, 1, 1), cond(false, 2, 0, -1)}}
	if e != api.OK || !reflect.DeepEqual(p, want) {
		t.Errorf("%v, %d", p, e)
	}
	p, e = Canon(2, append(conds, least(0, 1, -3)))
	if e != api.OK || !reflect.DeepEqual(p, None(2)) {
		t.Errorf("%v, %d", p, e)
	}
	p, e = Canon(1, []simplex.Cond{{Row: rows.Row{whole.Decimal("3"), whole.Decimal("10000000000000000000000")}}})
	if e != api.ErrFull || !reflect.DeepEqual(p, api.Poly{}) {
		t.Errorf("%v, %d", p, e)
	}
}

func TestConds(t *testing.T) {
	s, is := Of(2, []simplex.Cond{least(1, 1, -2), least(-2, -2, 4), least(1, 0, 0), least(0, -1, 3)})
	want := []simplex.Cond{{Row: row(1, 1, -2), Eq: true}, least(0, -1, 2)}
	if l := s.Conds(); !is || !reflect.DeepEqual(l, want) {
		t.Errorf("%v, %t", l, is)
	}
	s, is = Of(2, nil)
	if l := s.Conds(); !is || len(l) != 0 {
		t.Errorf("%v, %t", l, is)
	}
}

// One variable more than a polyhedron may have: the cones of polyhedra do.
func TestOf(t *testing.T) {
	const n = api.MaxDim + 1
	var conds []simplex.Cond
	for i := range n {
		for _, r := range []rows.Row{rows.Unit(n+1, i), rows.Unit(n+1, i).Neg()} {
			conds = append(conds, simplex.Cond{Row: r})
		}
	}
	for missing := range n + 1 {
		s, is := Of(n, conds[:2*n-missing]) // the last variables have no bounds, and one of them may have a lower one
		free := (missing + 1) / 2
		if !is || s.Rank() != free || len(s.Inner()) != n || len(s.Equations()) != n-free || len(s.Needed()) != missing%2 {
			t.Errorf("%d conditions: %t, rank %d, %d equations, %d inequalities", 2*n-missing, is, s.Rank(), len(s.Equations()), len(s.Needed()))
		}
	}
}

func TestPoly(t *testing.T) {
	p, e := Poly(2, []rows.Row{row(1, 0, 4)}, []rows.Row{row(0, 1, 2), row(0, -1, 7)})
	want := api.Poly{Dim: 2, Conds: []api.Cond{cond(true, 4, 1, 0), cond(false, 7, 0, -1), cond(false, 2, 0, 1)}}
	if e != api.OK || !reflect.DeepEqual(p, want) {
		t.Errorf("%v, %d", p, e)
	}
	full := make([]rows.Row, api.MaxConds+1)
	for i := range full {
		full[i] = row(i, 1, 0)
	}
	if p, e := Poly(2, nil, full[1:]); e != api.OK || len(p.Conds) != api.MaxConds {
		t.Errorf("%d conditions, %d", len(p.Conds), e)
	}
	for _, l := range [][]rows.Row{full, {row(1, api.MaxNum+1, 0)}, {row(1, 0, -api.MaxNum-1)}} {
		if p, e := Poly(2, nil, l); e != api.ErrFull || !reflect.DeepEqual(p, api.Poly{}) {
			t.Errorf("%v, %d", p, e)
		}
	}
}
