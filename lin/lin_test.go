package lin

import (
	"math"
	"math/big"
	"math/rand"
	"reflect"
	"testing"

	"floodmark/api"
)

func form(add int, coef ...int) api.Form { return api.Form{Coef: coef, Add: add} }

func integer(n int) api.Num { return api.Num{Top: n, Low: 1} }

func toRat(a api.Num) *big.Rat { return big.NewRat(int64(a.Top), int64(a.Low)) }

// value returns the value of f for x.
func value(f api.Form, x []api.Num) *big.Rat {
	sum := big.NewRat(int64(f.Add), 1)
	for i, c := range f.Coef {
		sum.Add(sum, new(big.Rat).Mul(big.NewRat(int64(c), 1), toRat(x[i])))
	}
	return sum
}

func fits(a *big.Int) bool { return a.CmpAbs(big.NewInt(api.MaxNum)) <= 0 }

// list returns up to most random forms in n variables with integers up to
// size in absolute value; some of them depend on the ones before.
func list(random *rand.Rand, n, most, size int) []api.Form {
	var out []api.Form
	for range random.Intn(most + 1) {
		f := form(random.Intn(2*size+1)-size, make([]int, n)...)
		for i := range f.Coef {
			if random.Intn(3) > 0 {
				f.Coef[i] = random.Intn(2*size+1) - size
			}
		}
		if len(out) > 0 && random.Intn(3) == 0 && size < 1000 {
			g, h := out[random.Intn(len(out))], out[random.Intn(len(out))]
			for i := range f.Coef {
				f.Coef[i] = 2*g.Coef[i] - 3*h.Coef[i]
			}
			f.Add = 2*g.Add - 3*h.Add + random.Intn(8)/7
		}
		out = append(out, f)
	}
	return out
}

// gauss returns the reduced rows of the equations l with leading numbers 1, and the
// place of each leading number; place n if there is no solution.
func gauss(n int, l []api.Form) ([][]*big.Rat, []int) {
	var rows [][]*big.Rat
	for _, f := range l {
		var r []*big.Rat
		for _, c := range append(append([]int{}, f.Coef...), f.Add) {
			r = append(r, big.NewRat(int64(c), 1))
		}
		rows = append(rows, r)
	}
	var places []int
	for c := 0; c <= n; c++ {
		at := len(places)
		pivot := at
		for pivot < len(rows) && rows[pivot][c].Sign() == 0 {
			pivot++
		}
		if pivot == len(rows) {
			continue
		}
		rows[at], rows[pivot] = rows[pivot], rows[at]
		first := new(big.Rat).Set(rows[at][c])
		for i := range rows[at] {
			rows[at][i].Quo(rows[at][i], first)
		}
		for d := range rows {
			factor := new(big.Rat).Set(rows[d][c])
			for i := range rows[d] {
				if d != at {
					rows[d][i].Sub(rows[d][i], new(big.Rat).Mul(factor, rows[at][i]))
				}
			}
		}
		places = append(places, c)
	}
	return rows[:len(places)], places
}

func solvable(n int, places []int) bool {
	return len(places) == 0 || places[len(places)-1] < n
}

// integers returns the row times its least common denominator, and whether all
// these integers are valid.
func integers(r []*big.Rat) (api.Form, bool) {
	low := big.NewInt(1)
	for _, x := range r {
		gcd := new(big.Int).GCD(nil, nil, low, x.Denom())
		low.Mul(low, new(big.Int).Quo(x.Denom(), gcd))
	}
	var out []int
	for _, x := range r {
		y := new(big.Rat).Mul(x, new(big.Rat).SetInt(low))
		if !fits(y.Num()) {
			return api.Form{}, false
		}
		out = append(out, int(y.Num().Int64()))
	}
	return form(out[len(out)-1], out[:len(out)-1]...), true
}

func sameForms(l, m []api.Form) bool {
	if len(l) != len(m) {
		return false
	}
	for i := range l {
		if l[i].Add != m[i].Add || len(l[i].Coef) != len(m[i].Coef) {
			return false
		}
		for j := range l[i].Coef {
			if l[i].Coef[j] != m[i].Coef[j] {
				return false
			}
		}
	}
	return true
}

// bad arguments: dimensions, and forms and points that are not valid in two variables.
var (
	badDims  = []int{-1, api.MaxDim + 1, math.MinInt, math.MaxInt}
	badForms = []api.Form{{}, form(0, 1), form(0, 1, 2, 3), form(api.MaxNum+1, 1, 2), form(-api.MaxNum-1, 1, 2),
		form(0, api.MaxNum+1, 0), form(0, 0, -api.MaxNum-1), form(math.MinInt, 0, 0), form(0, 0, math.MinInt)}
	badPoints = [][]api.Num{nil, {integer(1)}, {integer(1), integer(2), integer(3)}, {integer(1), {}}, {{Top: 2, Low: 4}, integer(1)},
		{integer(1), {Top: 1, Low: -1}}, {integer(api.MaxNum + 1), integer(0)}, {integer(0), {Top: math.MinInt, Low: math.MinInt}}}
)

// P2.1
func TestValid(t *testing.T) {
	eight := make([]int, api.MaxDim)
	if !ValidPoint(0, nil) || !ValidPoint(0, []api.Num{}) || !ValidPoint(2, []api.Num{integer(1), {Top: -1, Low: 2}}) {
		t.Error("a valid point is refused")
	}
	if !ValidForm(0, form(api.MaxNum)) || !ValidForm(0, form(0, []int{}...)) || !ValidForm(1, form(-api.MaxNum, api.MaxNum)) ||
		!ValidForm(api.MaxDim, form(0, eight...)) {
		t.Error("a valid form is refused")
	}
	for _, f := range badForms {
		if ValidForm(2, f) {
			t.Errorf("valid form: %v", f)
		}
	}
	for _, x := range badPoints {
		if ValidPoint(2, x) {
			t.Errorf("valid point: %v", x)
		}
	}
	nine := append(eight, 0)
	if ValidForm(api.MaxDim+1, form(0, nine...)) || ValidForm(-1, form(0)) || ValidPoint(-1, nil) {
		t.Error("a dimension is out of range")
	}
	var point []api.Num
	for range api.MaxDim {
		point = append(point, integer(1))
	}
	if !ValidPoint(api.MaxDim, point) || ValidPoint(api.MaxDim+1, append(point, integer(1))) {
		t.Error("the greatest dimension")
	}
}

// P2.2
func TestValue(t *testing.T) {
	const m = api.MaxNum
	for _, c := range []struct {
		f    api.Form
		x    []api.Num
		want api.Num
	}{
		{form(-3, 1, 1), []api.Num{{Top: 1, Low: 2}, {Top: 5, Low: 2}}, integer(0)},
		{form(7, 2, -3), []api.Num{{Top: 1, Low: 3}, {Top: -1, Low: 2}}, api.Num{Top: 55, Low: 6}},
		{form(5), nil, integer(5)},
		{form(0, 0, 0), []api.Num{integer(m), {Top: 1, Low: m}}, integer(0)},
		{form(-1, m, -m), []api.Num{integer(m), integer(m)}, integer(-1)},
		{form(m, m, 0), []api.Num{integer(-1), integer(m)}, integer(0)},
	} {
		if got, e := Value(len(c.x), c.f, c.x); got != c.want || e != api.OK {
			t.Errorf("Value of %v for %v: %v, %d", c.f, c.x, got, e)
		}
	}
	for _, f := range []api.Form{form(1, m), form(-m, -1)} {
		if got, e := Value(1, f, []api.Num{integer(m)}); got != (api.Num{}) || e != api.ErrFull {
			t.Errorf("Value of %v: %v, %d", f, got, e)
		}
	}
}

// P2.2, P2.3, P2.4: invalid arguments.
func TestFormsRefuse(t *testing.T) {
	good, point := form(1, 1, 1), []api.Num{integer(1), integer(1)}
	refused := func(n int, f api.Form, x []api.Num) {
		t.Helper()
		if got, e := Value(n, f, x); got != (api.Num{}) || e != api.ErrArg {
			t.Errorf("Value(%d, %v, %v): %v, %d", n, f, x, got, e)
		}
	}
	for _, x := range badPoints {
		refused(2, good, x)
	}
	for _, n := range badDims {
		refused(n, good, point)
		if got, e := Primitive(n, good); !reflect.DeepEqual(got, api.Form{}) || e != api.ErrArg {
			t.Errorf("Primitive(%d): %v, %d", n, got, e)
		}
		if got, k, e := Combine(n, nil, nil); !reflect.DeepEqual(got, api.Form{}) || k != 0 || e != api.ErrArg {
			t.Errorf("Combine(%d): %v, %d, %d", n, got, k, e)
		}
	}
	for _, f := range badForms {
		refused(2, f, point)
		if got, e := Primitive(2, f); !reflect.DeepEqual(got, api.Form{}) || e != api.ErrArg {
			t.Errorf("Primitive of %v: %v, %d", f, got, e)
		}
		if got, k, e := Combine(2, []api.Form{good, f}, point); !reflect.DeepEqual(got, api.Form{}) || k != 0 || e != api.ErrArg {
			t.Errorf("Combine of %v: %v, %d, %d", f, got, k, e)
		}
	}
}

// P2.3
func TestPrimitive(t *testing.T) {
	for _, c := range [][2]api.Form{
		{form(-6, 2, 4), form(-3, 1, 2)},
		{form(0, -4, 6), form(0, -2, 3)},
		{form(5, 0, 10), form(1, 0, 2)},
		{form(3, 2, 0), form(3, 2, 0)},
		{form(0, 0, 0), form(0, 0, 0)},
		{form(-7), form(-1)},
		{form(0), form(0)},
		{form(api.MaxNum, -api.MaxNum), form(1, -1)},
	} {
		before := append([]int{}, c[0].Coef...)
		got, e := Primitive(len(c[0].Coef), c[0])
		if !sameForms([]api.Form{got}, []api.Form{c[1]}) || e != api.OK {
			t.Errorf("Primitive of %v: %v, %d", c[0], got, e)
		}
		for i := range got.Coef {
			got.Coef[i]++
		}
		if !sameForms([]api.Form{c[0]}, []api.Form{form(c[0].Add, before...)}) {
			t.Error("Primitive changes or shares its argument")
		}
	}
}

// checkCombination compares a result of Combine with the exact sum.
func checkCombination(t *testing.T, n int, l []api.Form, m []api.Num) {
	t.Helper()
	sums := make([]*big.Rat, n+1)
	for i := range sums {
		sums[i] = new(big.Rat)
		for j, f := range l {
			c := append(append([]int{}, f.Coef...), f.Add)[i]
			sums[i].Add(sums[i], new(big.Rat).Mul(big.NewRat(int64(c), 1), toRat(m[j])))
		}
	}
	low := big.NewInt(1)
	for _, x := range sums {
		gcd := new(big.Int).GCD(nil, nil, low, x.Denom())
		low.Mul(low, new(big.Int).Quo(x.Denom(), gcd))
	}
	want, valid := integers(sums)
	got, k, e := Combine(n, l, m)
	if !valid || !fits(low) {
		if e != api.ErrFull || k != 0 || !reflect.DeepEqual(got, api.Form{}) {
			t.Errorf("Combine of %v and %v: %v, %d, %d is too large", l, m, got, k, e)
		}
		return
	}
	if e != api.OK || int64(k) != low.Int64() || !sameForms([]api.Form{got}, []api.Form{want}) {
		t.Errorf("Combine of %v and %v: %v, %d, %d, not %v, %v", l, m, got, k, e, want, low)
	}
}

// P2.4
func TestCombine(t *testing.T) {
	const m = api.MaxNum
	random := rand.New(rand.NewSource(4))
	for range 2000 {
		n, size := random.Intn(4), []int{2, 9, 1000, 1 << 58}[random.Intn(4)]
		l := list(random, n, 5, size)
		var factors []api.Num
		for range l {
			a := big.NewRat(int64(random.Intn(21)-10), int64(1+random.Intn(12)))
			factors = append(factors, api.Num{Top: int(a.Num().Int64()), Low: int(a.Denom().Int64())})
		}
		checkCombination(t, n, l, factors)
	}
	checkCombination(t, 2, nil, nil)
	checkCombination(t, 0, []api.Form{form(6), form(4)}, []api.Num{{Top: 1, Low: 4}, integer(0)})
	checkCombination(t, 1, []api.Form{form(m, 1), form(m, 0)}, []api.Num{integer(m), integer(-m)})
	checkCombination(t, 1, []api.Form{form(1, 1)}, []api.Num{{Top: 1, Low: m}})
	checkCombination(t, 1, []api.Form{form(m, 1)}, []api.Num{{Top: 1, Low: m - 1}})
	checkCombination(t, 1, []api.Form{form(m, 0), form(0, 1)}, []api.Num{{Top: 1, Low: 3}, {Top: 1, Low: 5}})
	checkCombination(t, 1, []api.Form{form(1, 0), form(0, 1)}, []api.Num{{Top: 1, Low: m}, {Top: 1, Low: m - 1}})
	checkCombination(t, 1, []api.Form{form(0, 1), form(0, 1)}, []api.Num{{Top: 1, Low: m}, {Top: 1, Low: m - 1}})
}

// P2.4
func TestCombineErrors(t *testing.T) {
	l := []api.Form{form(1, 1, 1), form(2, 2, 0)}
	many := make([]api.Form, api.MaxConds+1)
	numbers := make([]api.Num, api.MaxConds+1)
	for i := range many {
		many[i], numbers[i] = form(1, 1, 2), integer(1)
	}
	for _, c := range []struct {
		l    []api.Form
		m    []api.Num
		want api.Errno
	}{
		{l, nil, api.ErrDim},
		{l, []api.Num{integer(1)}, api.ErrDim},
		{l, numbers, api.ErrDim},
		{nil, numbers[:1], api.ErrDim},
		{l, []api.Num{integer(1), {}}, api.ErrArg},
		{l, []api.Num{{Top: 2, Low: 2}}, api.ErrArg},
		{many, numbers, api.ErrArg},
		{many, nil, api.ErrArg},
		{many[:api.MaxConds], numbers[:api.MaxConds], api.OK},
	} {
		got, k, e := Combine(2, c.l, c.m)
		if e != c.want || e != api.OK && (k != 0 || !reflect.DeepEqual(got, api.Form{})) {
			t.Errorf("Combine of %d forms and %d numbers: %v, %d, %d, not %d", len(c.l), len(c.m), got, k, e, c.want)
		}
	}
}

// P2.5, P2.6, P2.7: against Gauss's method on rationals.
func TestSystems(t *testing.T) {
	random := rand.New(rand.NewSource(5))
	for range 4000 {
		n, size := random.Intn(6), []int{1, 3, 20, 1 << 12, 1 << 60}[random.Intn(5)]
		l := list(random, n, 7, size)
		rows, places := gauss(n, l)
		checkEchelon(t, n, l, rows, places)
		checkSolution(t, n, l, rows, places)
		want := len(places)
		if !solvable(n, places) {
			want--
		}
		if got, e := Rank(n, l); got != want || e != api.OK {
			t.Errorf("Rank of %v: %d, %d, not %d", l, got, e, want)
		}
	}
}

func checkEchelon(t *testing.T, n int, l []api.Form, rows [][]*big.Rat, places []int) {
	t.Helper()
	got, is, e := Echelon(n, l)
	if !solvable(n, places) {
		if len(got) > 0 || is || e != api.OK {
			t.Errorf("Echelon of %v: %v, %t, %d, without solution", l, got, is, e)
		}
		return
	}
	var want []api.Form
	for _, r := range rows {
		f, valid := integers(r)
		if !valid {
			if len(got) > 0 || is || e != api.ErrFull {
				t.Errorf("Echelon of %v: %v, %t, %d is too large", l, got, is, e)
			}
			return
		}
		want = append(want, f)
	}
	if !sameForms(got, want) || !is || e != api.OK {
		t.Errorf("Echelon of %v: %v, %t, %d, not %v", l, got, is, e, want)
	}
	if again, is, e := Echelon(n, got); !sameForms(again, got) || !is || e != api.OK {
		t.Errorf("Echelon of the echelon form %v: %v", got, again)
	}
}

func checkSolution(t *testing.T, n int, l []api.Form, rows [][]*big.Rat, places []int) {
	t.Helper()
	got, is, e := Solve(n, l)
	if !solvable(n, places) {
		if len(got) > 0 || is || e != api.OK {
			t.Errorf("Solve of %v: %v, %t, %d, without solution", l, got, is, e)
		}
		return
	}
	want := make([]*big.Rat, n)
	for i := range want {
		want[i] = new(big.Rat)
	}
	for i, c := range places {
		want[c] = new(big.Rat).Neg(rows[i][n])
		if !fits(want[c].Num()) || !fits(want[c].Denom()) {
			if len(got) > 0 || is || e != api.ErrFull {
				t.Errorf("Solve of %v: %v, %t, %d is too large", l, got, is, e)
			}
			return
		}
	}
	if len(got) != n || !is || e != api.OK {
		t.Fatalf("Solve of %v: %v, %t, %d", l, got, is, e)
	}
	for i := range want {
		if toRat(got[i]).Cmp(want[i]) != 0 {
			t.Errorf("Solve of %v: %v, not %v", l, got, want)
		}
	}
	for _, f := range l { // P2.10
		if value(f, got).Sign() != 0 {
			t.Errorf("%v does not solve %v", got, f)
		}
	}
}

// P2.5
func TestEchelonExamples(t *testing.T) {
	const m = api.MaxNum
	for _, c := range []struct {
		n       int
		l, want []api.Form
		is      bool
	}{
		{2, []api.Form{form(-3, 1, 1), form(0, 2, -1)}, []api.Form{form(-1, 1, 0), form(-2, 0, 1)}, true},
		{2, []api.Form{form(-6, 2, 4)}, []api.Form{form(-3, 1, 2)}, true},
		{2, []api.Form{form(-6, -2, 4)}, []api.Form{form(3, 1, -2)}, true},
		{3, []api.Form{form(4, 0, 2, 2), form(1, 1, 0, 1), form(4, 0, 2, 2)}, []api.Form{form(1, 1, 0, 1), form(2, 0, 1, 1)}, true},
		{2, nil, nil, true},
		{2, []api.Form{form(0, 0, 0)}, nil, true},
		{2, []api.Form{form(1, 0, 0)}, nil, false},
		{1, []api.Form{form(0, 1), form(1, 1)}, nil, false},
		{0, []api.Form{form(0)}, nil, true},
		{0, []api.Form{form(0), form(-m)}, nil, false},
		{2, []api.Form{form(0, m, m-1), form(0, m, 1-m), form(m, 0, 1)}, nil, false},
	} {
		got, is, e := Echelon(c.n, c.l)
		if !sameForms(got, c.want) || is != c.is || e != api.OK {
			t.Errorf("Echelon of %v: %v, %t, %d", c.l, got, is, e)
		}
	}
}

// large is a system whose echelon form is not valid.
func large() []api.Form {
	const m = api.MaxNum
	return []api.Form{form(0, m, m-1, m-3), form(0, m-5, 7, 1<<59-11)}
}

// P2.5 to P2.8: only the result counts for ErrFull.
func TestLargeSystems(t *testing.T) {
	l := large()
	if got, is, e := Echelon(3, l); len(got) > 0 || is || e != api.ErrFull {
		t.Errorf("Echelon: %v, %t, %d", got, is, e)
	}
	x, is, e := Solve(3, l)
	if !is || e != api.OK || len(x) != 3 || x[0] != integer(0) || x[1] != integer(0) || x[2] != integer(0) {
		t.Errorf("Solve: %v, %t, %d", x, is, e)
	}
	l[0].Add = 1
	if x, is, e := Solve(3, l); len(x) > 0 || is || e != api.ErrFull {
		t.Errorf("Solve: %v, %t, %d", x, is, e)
	}
	if n, e := Rank(3, l); n != 2 || e != api.OK {
		t.Errorf("Rank: %d, %d", n, e)
	}
	if is, e := Same(3, large(), []api.Form{large()[1], large()[0], large()[1]}); !is || e != api.OK {
		t.Errorf("Same: %t, %d", is, e)
	}
	if is, e := Same(3, large(), l); is || e != api.OK {
		t.Errorf("Same: %t, %d", is, e)
	}
	if got, is, e := Echelon(3, append(l, form(1, l[0].Coef...), form(0, l[0].Coef...))); len(got) > 0 || is || e != api.OK {
		t.Errorf("Echelon without solution: %v, %t, %d", got, is, e)
	}
}

// P2.7
func TestRank(t *testing.T) {
	for _, c := range []struct {
		n    int
		l    []api.Form
		want int
	}{
		{2, nil, 0},
		{0, []api.Form{form(3), form(0)}, 0},
		{2, []api.Form{form(1, 0, 0), form(2, 0, 0)}, 0},
		{2, []api.Form{form(1, 1, 2), form(2, 1, 2), form(3, -2, -4)}, 1},
		{2, []api.Form{form(1, 1, 2), form(2, 1, 2), form(3, 2, 3)}, 2},
		{3, []api.Form{form(0, 1, 1, 0), form(0, 0, 1, 1), form(0, 1, 2, 1), form(9, 1, 0, 0)}, 3},
	} {
		if got, e := Rank(c.n, c.l); got != c.want || e != api.OK {
			t.Errorf("Rank of %v: %d, %d", c.l, got, e)
		}
	}
}

// P2.8
func TestSame(t *testing.T) {
	none := []api.Form{form(1, 0, 0)}
	for _, c := range []struct {
		l, m []api.Form
		want bool
	}{
		{nil, nil, true},
		{nil, []api.Form{form(0, 0, 0)}, true},
		{nil, none, false},
		{none, []api.Form{form(0, 1, 0), form(5, 1, 0)}, true},
		{none, []api.Form{form(0, 1, 0)}, false},
		{[]api.Form{form(-3, 1, 1), form(0, 2, -1)}, []api.Form{form(2, 0, -1), form(-1, 1, 0)}, true},
		{[]api.Form{form(-6, 2, 4)}, []api.Form{form(3, -1, -2)}, true},
		{[]api.Form{form(-6, 2, 4)}, []api.Form{form(-6, 2, 5)}, false},
		{[]api.Form{form(-6, 2, 4)}, []api.Form{form(-5, 2, 4)}, false},
		{[]api.Form{form(0, 1, 0)}, []api.Form{form(0, 0, 1)}, false},
		{[]api.Form{form(0, 1, 0)}, []api.Form{form(0, 1, 0), form(0, 0, 1)}, false},
	} {
		for _, pair := range [][2][]api.Form{{c.l, c.m}, {c.m, c.l}} {
			if got, e := Same(2, pair[0], pair[1]); got != c.want || e != api.OK {
				t.Errorf("Same of %v and %v: %t, %d", pair[0], pair[1], got, e)
			}
		}
	}
	random := rand.New(rand.NewSource(6))
	for range 2000 {
		n := random.Intn(4)
		l, m := list(random, n, 3, 1), list(random, n, 3, 1)
		rows, places := gauss(n, l)
		others, otherPlaces := gauss(n, m)
		want := solvable(n, places) == solvable(n, otherPlaces)
		if want && solvable(n, places) {
			want = reflect.DeepEqual(places, otherPlaces)
			for i := 0; want && i < len(rows); i++ {
				for j := range rows[i] {
					want = want && rows[i][j].Cmp(others[i][j]) == 0
				}
			}
		}
		if got, e := Same(n, l, m); got != want || e != api.OK {
			t.Errorf("Same of %v and %v: %t, %d", l, m, got, e)
		}
	}
}

// P2.5 to P2.8: invalid arguments.
func TestSystemsRefuse(t *testing.T) {
	refused := func(n int, l []api.Form) {
		t.Helper()
		if got, is, e := Echelon(n, l); len(got) > 0 || is || e != api.ErrArg {
			t.Errorf("Echelon(%d, %v): %v, %t, %d", n, l, got, is, e)
		}
		if got, is, e := Solve(n, l); len(got) > 0 || is || e != api.ErrArg {
			t.Errorf("Solve(%d, %v): %v, %t, %d", n, l, got, is, e)
		}
		if got, e := Rank(n, l); got != 0 || e != api.ErrArg {
			t.Errorf("Rank(%d, %v): %d, %d", n, l, got, e)
		}
		if is, e := Same(n, l, nil); is || e != api.ErrArg {
			t.Errorf("Same(%d, %v): %t, %d", n, l, is, e)
		}
		if is, e := Same(n, nil, l); is || e != api.ErrArg {
			t.Errorf("Same(%d, nil, %v): %t, %d", n, l, is, e)
		}
	}
	for _, n := range badDims {
		refused(n, nil)
		refused(n, []api.Form{form(1, 1)})
	}
	for _, f := range badForms {
		refused(2, []api.Form{f})
		refused(2, []api.Form{form(1, 1, 1), form(1, 0, 0), f})
	}
	many := make([]api.Form, api.MaxConds+1)
	for i := range many {
		many[i] = form(-i, i, 1)
	}
	refused(2, many)
	if got, e := Rank(2, many[:api.MaxConds]); got != 2 || e != api.OK {
		t.Errorf("Rank of the longest list: %d, %d", got, e)
	}
}

// P2.9: the points are the same ones, and whatever has them has the same echelon form.
func TestEchelonKeepsPoints(t *testing.T) {
	random := rand.New(rand.NewSource(7))
	for range 500 {
		l := list(random, 2, 3, 3)
		got, is, _ := Echelon(2, l)
		for x := -6; x <= 6; x++ {
			for y := -6; y <= 6; y++ {
				point := []api.Num{toNum(x, 2), toNum(y, 2)}
				if solves(l, point) != (is && solves(got, point)) {
					t.Fatalf("%v and its echelon form %v differ at %v", l, got, point)
				}
			}
		}
		mixed := []api.Form{form(0, 0, 0)}
		for i := len(l) - 1; i >= 0; i-- {
			f := form(-2*l[i].Add, -2*l[i].Coef[0], -2*l[i].Coef[1])
			if i > 0 {
				f = form(f.Add+l[i-1].Add, f.Coef[0]+l[i-1].Coef[0], f.Coef[1]+l[i-1].Coef[1])
			}
			mixed = append(mixed, f)
		}
		if other, isOther, _ := Echelon(2, mixed); is != isOther || !sameForms(got, other) {
			t.Errorf("%v and %v have the same solutions, but %v and %v", l, mixed, got, other)
		}
	}
}

func toNum(top, low int) api.Num {
	a := big.NewRat(int64(top), int64(low))
	return api.Num{Top: int(a.Num().Int64()), Low: int(a.Denom().Int64())}
}

func solves(l []api.Form, x []api.Num) bool {
	for _, f := range l {
		if value(f, x).Sign() != 0 {
			return false
		}
	}
	return true
}

// P2.11
func TestCombinationIsLinear(t *testing.T) {
	random := rand.New(rand.NewSource(8))
	for range 500 {
		n := random.Intn(4)
		l := list(random, n, 4, 9)
		var m, x []api.Num
		for range l {
			m = append(m, toNum(random.Intn(19)-9, 1+random.Intn(5)))
		}
		for range n {
			x = append(x, toNum(random.Intn(19)-9, 1+random.Intn(5)))
		}
		g, k, e := Combine(n, l, m)
		v, f := Value(n, g, x)
		if e != api.OK || f != api.OK {
			t.Fatalf("errors %d, %d", e, f)
		}
		sum := new(big.Rat)
		for i := range l {
			sum.Add(sum, new(big.Rat).Mul(value(l[i], x), toRat(m[i])))
		}
		if new(big.Rat).Mul(sum, big.NewRat(int64(k), 1)).Cmp(toRat(v)) != 0 {
			t.Errorf("%v / %d is not the combination of %v and %v", g, k, l, m)
		}
	}
}

// P2 and rule 7: equal results for equal arguments, which stay as they are; no
// result shares memory with another one.
func TestEffects(t *testing.T) {
	room := make([]api.Num, 2, 5)
	room[0], room[1] = integer(2), integer(3)
	if _, e := Value(2, form(1, 1, 1), room); e != api.OK || room[:3][2] != (api.Num{}) {
		t.Error("Value writes behind its argument")
	}
	l := []api.Form{form(-4, 2, 2), form(0, 0, 3)}
	first, _, _ := Echelon(2, l)
	for _, f := range first {
		for i := range f.Coef {
			f.Coef[i] = 77
		}
		_ = append(f.Coef, 99)
	}
	second, _, _ := Echelon(2, l)
	if !sameForms(second, []api.Form{form(-2, 1, 0), form(0, 0, 1)}) || !sameForms(l, []api.Form{form(-4, 2, 2), form(0, 0, 3)}) {
		t.Errorf("Echelon: %v of %v", second, l)
	}
	x, _, _ := Solve(2, l)
	x[0] = integer(9)
	if y, _, _ := Solve(2, l); y[0] != integer(2) {
		t.Errorf("Solve: %v", y)
	}
}
