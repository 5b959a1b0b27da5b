package simplex

import (
	"math/rand"
	"testing"

	"floodmark/api"
	"floodmark/frac"
	"floodmark/rows"
	"floodmark/whole"
)

func row(l ...int) rows.Row {
	var r rows.Row
	for _, x := range l {
		r = append(r, whole.Of(x))
	}
	return r
}

func least(l ...int) Cond { return Cond{Row: row(l...)} }

func equal(l ...int) Cond { return Cond{Row: row(l...), Eq: true} }

func same(a frac.Frac, top, low int) bool {
	return a.Cmp(frac.New(whole.Of(top), whole.Of(low))) == 0
}

// at returns the value of r for x.
func at(r rows.Row, x []frac.Frac) frac.Frac {
	one := whole.Of(1)
	sum := frac.New(r.Add(), one)
	for i, a := range x {
		sum = sum.Plus(frac.New(r[i], one).Times(a))
	}
	return sum
}

func satisfies(conds []Cond, x []frac.Frac) bool {
	for _, c := range conds {
		if sign := at(c.Row, x).Sign(); sign < 0 || c.Eq && sign > 0 {
			return false
		}
	}
	return true
}

// leaves reports whether r minus the sum of the multipliers is the constant.
func leaves(conds []Cond, r rows.Row, m []frac.Frac, constant frac.Frac) bool {
	for i, c := range conds {
		if m[i].Sign() < 0 && !c.Eq {
			return false
		}
	}
	for j, x := range r {
		rest := frac.New(x, whole.Of(1))
		for i, c := range conds {
			rest = rest.Minus(m[i].Times(frac.New(c.Row[j], whole.Of(1))))
		}
		if j == len(r)-1 {
			rest = rest.Minus(constant)
		}
		if rest.Sign() != 0 {
			return false
		}
	}
	return true
}

func sample(random *rand.Rand, n int) ([]Cond, rows.Row) {
	next := func() rows.Row {
		r := make(rows.Row, n+1)
		for i := range r {
			r[i] = whole.Of((random.Intn(9) - 4) * random.Intn(2))
		}
		return r
	}
	var conds []Cond
	for range random.Intn(8) {
		conds = append(conds, Cond{next(), random.Intn(8) == 0})
	}
	return conds, next()
}

// All answers of a table are proved by points and multipliers.
func TestSearches(t *testing.T) {
	random := rand.New(rand.NewSource(2))
	var counts [4]int
	for range 4000 {
		n := random.Intn(4)
		conds, r := sample(random, n)
		table := New(n, conds)
		if void, is := table.Feasible(); !is {
			if !leaves(conds, make(rows.Row, n+1), void, frac.Of(api.Num{Top: 1, Low: 1})) {
				t.Fatalf("%v is not refuted by %v", conds, void)
			}
			counts[0]++
			continue
		}
		if !satisfies(conds, table.Point()) {
			t.Fatalf("%v is not satisfied by %v", conds, table.Point())
		}
		if ray, is := table.Minimize(r); is {
			if !satisfies(conds, table.Point()) || !leaves(conds, r, table.Multipliers(r), table.Value(r)) || at(r, table.Point()).Cmp(table.Value(r)) != 0 {
				t.Fatalf("minimum of %v under %v", r, conds)
			}
			counts[1]++
		} else if r.Along(ray).Sign() >= 0 {
			t.Fatalf("%v does not fall along %v", r, ray)
		}
		table = New(n, conds)
		table.Feasible()
		if x, is := table.Below(r); is {
			if !satisfies(conds, x) || at(r, x).Sign() >= 0 {
				t.Fatalf("%v under %v is not below 0 at %v", r, conds, x)
			}
			counts[2]++
		} else if table.Value(r).Sign() < 0 || !leaves(conds, r, table.Multipliers(r), table.Value(r)) {
			t.Fatalf("%v under %v may be below 0", r, conds)
		} else {
			counts[3]++
		}
	}
	for i, n := range counts {
		if n < 200 {
			t.Errorf("only %d samples of kind %d", n, i)
		}
	}
}

func TestWithout(t *testing.T) {
	conds := []Cond{least(1, 0, 0), least(0, 1, 0), least(-1, -1, 4), equal(1, -1, 0)}
	table := New(2, conds)
	if _, is := table.Feasible(); !is {
		t.Fatal("no point")
	}
	first := table.Without(0)
	if _, is := first.Below(conds[0].Row); is {
		t.Error("the first condition follows from the second and the last one")
	}
	both := first.Without(1)
	if x, is := both.Below(conds[1].Row); !is || !satisfies(conds[2:], x) {
		t.Error("the first two conditions follow from the others")
	}
	for _, c := range conds[:2] {
		if _, is := table.Below(c.Row); is {
			t.Error("the table itself has changed")
		}
	}
}

func TestOf(t *testing.T) {
	l, valid := Of(api.Poly{Dim: 1, Conds: []api.Cond{{Form: api.Form{Coef: []int{2}, Add: -3}}, {Form: api.Form{Coef: []int{0}}, Eq: true}}})
	if !valid || len(l) != 2 || l[0].Eq || !l[1].Eq || !l[0].Row.Equal(row(2, -3)) {
		t.Errorf("%v, %t", l, valid)
	}
	if _, valid := Of(api.Poly{Dim: 1, Conds: []api.Cond{{}}}); valid {
		t.Error("a form without coefficients")
	}
}

func TestOfAll(t *testing.T) {
	plane, space, bad := api.Poly{Dim: 2, Conds: []api.Cond{{Form: api.Form{Coef: []int{1, 2}, Add: 3}}}}, api.Poly{Dim: 3}, api.Poly{Dim: -1}
	for _, c := range []struct {
		l []api.Poly
		e api.Errno
	}{
		{nil, api.OK}, {[]api.Poly{plane, plane}, api.OK}, {[]api.Poly{plane, plane, space}, api.ErrDim}, {[]api.Poly{plane, space, bad}, api.ErrArg}, {[]api.Poly{bad}, api.ErrArg},
	} {
		out, e := OfAll(c.l...)
		if e != c.e || e == api.OK && len(out) != len(c.l) || e != api.OK && out != nil {
			t.Errorf("OfAll(%v): %v, %d", c.l, out, e)
		}
		for _, l := range out {
			if len(l) != 1 || !l[0].Row.Equal(row(1, 2, 3)) {
				t.Errorf("OfAll(%v): %v", c.l, l)
			}
		}
	}
}

// The point of an edge without end is the one at which the row is -1.
func TestBeyond(t *testing.T) {
	table := New(2, []Cond{least(3, -1, 0), least(0, 1, -2)})
	table.Feasible()
	if x, is := table.Below(row(-5, 0, 7)); !is || !same(at(row(-5, 0, 7), x), -1, 1) {
		t.Errorf("%v, %t", x, is)
	}
}
