package lp

import (
	"math"
	"math/big"
	"math/rand"
	"reflect"
	"testing"

	"floodmark/api"
)

const most = api.MaxNum

func form(add int, coef ...int) api.Form { return api.Form{Coef: coef, Add: add} }

func least(add int, coef ...int) api.Cond { return api.Cond{Form: form(add, coef...)} }

func equal(add int, coef ...int) api.Cond { return api.Cond{Form: form(add, coef...), Eq: true} }

func polyhedron(n int, conds ...api.Cond) api.Poly { return api.Poly{Dim: n, Conds: conds} }

func integer(n int) api.Num { return api.Num{Top: n, Low: 1} }

func rat(a api.Num) *big.Rat { return big.NewRat(int64(a.Top), int64(a.Low)) }

func opposite(f api.Form) api.Form {
	g := form(-f.Add)
	for _, x := range f.Coef {
		g.Coef = append(g.Coef, -x)
	}
	return g
}

// value returns the value of f for x.
func value(f api.Form, x []api.Num) *big.Rat {
	sum := big.NewRat(int64(f.Add), 1)
	for i, c := range f.Coef {
		sum.Add(sum, new(big.Rat).Mul(big.NewRat(int64(c), 1), rat(x[i])))
	}
	return sum
}

// along returns how fast f rises in a direction.
func along(f api.Form, ray []int) *big.Int {
	sum := new(big.Int)
	for i, c := range f.Coef {
		sum.Add(sum, new(big.Int).Mul(big.NewInt(int64(c)), big.NewInt(int64(ray[i]))))
	}
	return sum
}

func valid(a api.Num) bool {
	return a.Low >= 1 && a.Low <= most && -most <= a.Top && a.Top <= most &&
		rat(a).Denom().Int64() == int64(a.Low)
}

func has(p api.Poly, x []api.Num) bool {
	if len(x) != p.Dim {
		return false
	}
	for _, a := range x {
		if !valid(a) {
			return false
		}
	}
	for _, c := range p.Conds {
		if sign := value(c.Form, x).Sign(); sign < 0 || c.Eq && sign > 0 {
			return false
		}
	}
	return true
}

// proves reports whether m are multipliers for p, and f minus their sum is the
// constant returned.
func proves(p api.Poly, f api.Form, m []api.Num) (*big.Rat, bool) {
	if len(m) != len(p.Conds) {
		return nil, false
	}
	rest := []*big.Rat{}
	for _, c := range append(append([]int{}, f.Coef...), f.Add) {
		rest = append(rest, big.NewRat(int64(c), 1))
	}
	for i, c := range p.Conds {
		if !valid(m[i]) || m[i].Top < 0 && !c.Eq {
			return nil, false
		}
		for j, x := range append(append([]int{}, c.Form.Coef...), c.Form.Add) {
			rest[j].Sub(rest[j], new(big.Rat).Mul(rat(m[i]), big.NewRat(int64(x), 1)))
		}
	}
	for _, x := range rest[:p.Dim] {
		if x.Sign() != 0 {
			return nil, false
		}
	}
	return rest[p.Dim], true
}

// isVoid reports whether the sum of the multipliers is -1.
func isVoid(p api.Poly, m []api.Num) bool {
	rest, is := proves(p, form(0, make([]int, p.Dim)...), m)
	return is && rest.Cmp(big.NewRat(1, 1)) == 0
}

// isMinimum reports whether the certificates of r prove it.
func isMinimum(p api.Poly, f api.Form, r Result) bool {
	zero := Result{Kind: r.Kind}
	switch r.Kind {
	case Empty:
		zero.Mult = r.Mult
		return reflect.DeepEqual(r, zero) && isVoid(p, r.Mult)
	case Unbounded:
		zero.Point, zero.Ray = r.Point, r.Ray
		if !reflect.DeepEqual(r, zero) || !has(p, r.Point) || len(r.Ray) != p.Dim || along(f, r.Ray).Sign() >= 0 {
			return false
		}
		for _, x := range r.Ray {
			if x > most || x < -most {
				return false
			}
		}
		for _, c := range p.Conds {
			if sign := along(c.Form, r.Ray).Sign(); sign < 0 || c.Eq && sign > 0 {
				return false
			}
		}
		return true
	case Finite:
		rest, is := proves(p, f, r.Mult)
		return is && r.Ray == nil && valid(r.Value) && rest.Cmp(rat(r.Value)) == 0 &&
			has(p, r.Point) && value(f, r.Point).Cmp(rat(r.Value)) == 0
	}
	return false
}

// sample returns a random polyhedron and a form. Few different integers make
// corners that belong to more conditions than they need.
func sample(random *rand.Rand, n, conds, size int) (api.Poly, api.Form) {
	one := func() int {
		if random.Intn(3) == 0 {
			return 0
		}
		return random.Intn(2*size+1) - size
	}
	next := func() api.Form {
		f := form(one(), make([]int, n)...)
		for i := range f.Coef {
			f.Coef[i] = one()
		}
		return f
	}
	p := polyhedron(n)
	for range conds {
		p.Conds = append(p.Conds, api.Cond{Form: next(), Eq: random.Intn(6) == 0})
	}
	if random.Intn(2) == 0 { // about 0, so that fewer ones are empty
		for i, c := range p.Conds {
			p.Conds[i].Form.Add = max(c.Form.Add, -c.Form.Add)
		}
	}
	return p, next()
}

// small calls a test with many small polyhedra and forms.
func small(test func(p api.Poly, f api.Form)) {
	random := rand.New(rand.NewSource(3))
	for range 6000 {
		size := []int{1, 2, 9, 1000}[random.Intn(4)]
		test(sample(random, random.Intn(4), random.Intn(11), size))
	}
}

// other calls a test with polyhedra up to the limits.
func other(test func(p api.Poly, f api.Form)) {
	random := rand.New(rand.NewSource(4))
	for range 200 {
		size := []int{1, 100, most}[random.Intn(3)]
		test(sample(random, random.Intn(api.MaxDim+1), random.Intn(30), size))
	}
	for _, size := range []int{3, most} {
		test(sample(random, api.MaxDim, api.MaxConds, size))
	}
	fine := polyhedron(3, equal(-1, most, 0, 0), equal(0, -1, most, 0)) // 1 / MaxNum, its square
	for _, f := range []api.Form{form(0, 0, 0, 1), form(0, 1, 0, 0), form(0, 0, 1, 0), form(-1, 0, 1, 0), form(-1, 1, 1, 0)} {
		test(fine, f)
	}
}

func TestNames(t *testing.T) {
	if Empty != 0 || Unbounded != 1 || Finite != 2 {
		t.Error("the names of the kinds")
	}
}

// P3.1, P3.6, P3.9
func TestMinimum(t *testing.T) {
	var kinds [3]int
	small(func(p api.Poly, f api.Form) {
		r, e := Minimum(p, f)
		if e != api.OK || !isMinimum(p, f, r) {
			t.Fatalf("Minimum(%v, %v): %v, %d", p, f, r, e)
		}
		kinds[r.Kind]++
	})
	for kind, n := range kinds {
		if n < 500 {
			t.Errorf("only %d samples of kind %d", n, kind)
		}
	}
	other(func(p api.Poly, f api.Form) {
		r, e := Minimum(p, f)
		if e == api.OK && !isMinimum(p, f, r) || e != api.OK && (e != api.ErrFull || !reflect.DeepEqual(r, Result{})) {
			t.Fatalf("Minimum(%v, %v): %v, %d", p, f, r, e)
		}
	})
}

// P3.1
func TestMinimumExamples(t *testing.T) {
	triangle := polyhedron(2, least(0, 1, 0), least(0, 0, 1), least(4, -1, -1))
	r, e := Minimum(triangle, form(0, -1, -2))
	want := Result{Kind: Finite, Value: integer(-8), Point: []api.Num{integer(0), integer(4)}, Mult: []api.Num{integer(1), integer(0), integer(2)}}
	if !reflect.DeepEqual(r, want) || e != api.OK {
		t.Errorf("the first example: %v, %d", r, e)
	}
	r, e = Minimum(polyhedron(1, least(-1, 1), least(0, -1)), form(7, 5))
	want = Result{Mult: []api.Num{integer(1), integer(1)}}
	if !reflect.DeepEqual(r, want) || e != api.OK {
		t.Errorf("the second example: %v, %d", r, e)
	}
	for _, c := range []struct {
		p     api.Poly
		f     api.Form
		kind  int
		value api.Num
	}{
		{polyhedron(0), form(5), Finite, integer(5)},
		{polyhedron(0, least(0), equal(0), least(3)), form(-5), Finite, integer(-5)},
		{polyhedron(0, least(-3)), form(5), Empty, api.Num{}},
		{polyhedron(0, equal(3)), form(5), Empty, api.Num{}},
		{polyhedron(2), form(5, 0, 0), Finite, integer(5)},
		{polyhedron(2), form(5, 0, -3), Unbounded, api.Num{}},
		{polyhedron(2, equal(-3, 1, 1)), form(5, 2, 2), Finite, integer(11)},
		{polyhedron(2, equal(-3, 1, 1)), form(5, 2, 1), Unbounded, api.Num{}},
		{polyhedron(2, equal(-3, 1, 1), equal(-4, 1, 1)), form(5, 2, 1), Empty, api.Num{}},
		{polyhedron(2, equal(-3, 1, 1), equal(-6, 2, 2)), form(0, -1, -1), Finite, integer(-3)},
		{polyhedron(3, equal(0, most, -most, 0), equal(0, 0, most, -most)), form(0, 1, 0, 0), Unbounded, api.Num{}},
		{polyhedron(1, least(-1, 3)), form(0, 1), Finite, api.Num{Top: 1, Low: 3}},
		{polyhedron(1, least(0, 0), least(1, 0)), form(0, 1), Unbounded, api.Num{}},
		{polyhedron(1, least(-1, 0)), form(0, 1), Empty, api.Num{}},
		{polyhedron(1, least(-most, most), least(most, -most)), form(most, -most), Finite, integer(0)},
	} {
		r, e := Minimum(c.p, c.f)
		if r.Kind != c.kind || r.Value != c.value || e != api.OK || !isMinimum(c.p, c.f, r) {
			t.Errorf("Minimum(%v, %v): %v, %d", c.p, c.f, r, e)
		}
	}
}

// P3.1: the rule of the least index ends where other rules run in a circle.
func TestCircle(t *testing.T) {
	p := polyhedron(4, least(0, 1, 0, 0, 0), least(0, 0, 1, 0, 0), least(0, 0, 0, 1, 0), least(0, 0, 0, 0, 1),
		least(0, -1, 22, 2, -36), least(0, -1, 6, 1, -2), least(1, -1, 0, 0, 0))
	f := form(0, -10, 57, 9, 24)
	if r, e := Minimum(p, f); r.Value != integer(-1) || !isMinimum(p, f, r) || e != api.OK {
		t.Errorf("%v, %d", r, e)
	}
}

// P3.1: Klee and Minty's polyhedron, on which the method may visit all corners.
func TestManyCorners(t *testing.T) {
	p, power := polyhedron(api.MaxDim), 1
	f := form(0, make([]int, api.MaxDim)...)
	for i := range api.MaxDim {
		power *= 5
		low, high := make([]int, api.MaxDim), make([]int, api.MaxDim)
		low[i], high[i] = 1, -1
		for j := range i {
			high[j] = -(4 << (i - j - 1))
		}
		p.Conds = append(p.Conds, least(0, low...), least(power, high...))
		f.Coef[i] = -(1 << (api.MaxDim - 1 - i))
	}
	if r, e := Minimum(p, f); r.Value != integer(-power) || !isMinimum(p, f, r) || e != api.OK {
		t.Errorf("%v, %d", r, e)
	}
}

// P3.1: a value that is not valid cannot be returned.
func TestMinimumFull(t *testing.T) {
	for _, c := range []struct {
		p api.Poly
		f api.Form
	}{
		{polyhedron(1, least(-most, 1)), form(1, 1)},
		{polyhedron(1, least(most, -1)), form(0, -2)},
		{polyhedron(1, least(-1, most)), form(1, 1)},
		{polyhedron(2, least(-1, most, 0), least(0, -1, most)), form(0, 0, 1)},
		{polyhedron(2, equal(-most, 1, 0), equal(0, most, -1)), form(0, 0, 1)},
	} {
		if r, e := Minimum(c.p, c.f); !reflect.DeepEqual(r, Result{}) || e != api.ErrFull {
			t.Errorf("Minimum(%v, %v): %v, %d", c.p, c.f, r, e)
		}
	}
}

// P3.2
func TestFind(t *testing.T) {
	check := func(p api.Poly, mayBeFull bool) {
		x, is, m, e := Find(p)
		switch {
		case e == api.ErrFull && mayBeFull && x == nil && !is && m == nil:
		case e == api.OK && is && m == nil && has(p, x):
		case e == api.OK && !is && x == nil && isVoid(p, m):
		default:
			t.Fatalf("Find(%v): %v, %t, %v, %d", p, x, is, m, e)
		}
	}
	small(func(p api.Poly, f api.Form) { check(p, false) })
	other(func(p api.Poly, f api.Form) { check(p, true) })
	check(polyhedron(0), false)
	check(polyhedron(0, least(-1)), false)
	check(polyhedron(1, least(-1, 1), least(0, -1)), false)
	check(polyhedron(1, equal(-most, most), equal(0, 1)), false)
}

// P3.3, P3.7
func TestEntails(t *testing.T) {
	check := func(p api.Poly, f api.Form, mayBeFull bool) bool {
		t.Helper()
		is, q, x, e := Entails(p, f)
		rest, proved := proves(p, f, q.Mult)
		accepted, _ := Check(p, f, q)
		switch {
		case e == api.ErrFull && mayBeFull && !is && reflect.DeepEqual(q, Proof{}) && x == nil:
		case e == api.OK && is && accepted && x == nil && q.Void && isVoid(p, q.Mult):
		case e == api.OK && is && accepted && x == nil && !q.Void && proved && rest.Sign() >= 0:
		case e == api.OK && !is && reflect.DeepEqual(q, Proof{}) && has(p, x) && value(f, x).Sign() < 0:
		default:
			t.Fatalf("Entails(%v, %v): %t, %v, %v, %d", p, f, is, q, x, e)
		}
		return is
	}
	entailed := 0
	small(func(p api.Poly, f api.Form) {
		if check(p, f, false) {
			entailed++
		}
		r, _ := Minimum(p, f)
		if r.Kind == Finite && r.Value.Low == 1 && r.Value.Top < 900 && r.Value.Top > -900 && f.Add < 90 && f.Add > -90 {
			f.Add -= r.Value.Top // the least value is 0
			if !check(p, f, false) {
				t.Fatalf("Entails(%v, %v)", p, f)
			}
			f.Add--
			if check(p, f, false) {
				t.Fatalf("Entails(%v, %v)", p, f)
			}
		}
	})
	if entailed < 500 {
		t.Errorf("only %d samples", entailed)
	}
	other(func(p api.Poly, f api.Form) { check(p, f, true) })
	// A ray reaches points with lesser values only far from the corners.
	check(polyhedron(3, least(1000, 0, 1, -999), least(999, 998, -1000, 0), least(-1000, 0, 0, 1000)), form(1000, -1, 0, 0), false)
}

// P3.4, P3.8
func TestCheck(t *testing.T) {
	p := polyhedron(2, least(0, 1, 0), equal(-3, 0, 1), least(4, -1, -1))
	one, two, half := integer(1), integer(2), api.Num{Top: 1, Low: 2}
	for _, c := range []struct {
		f    api.Form
		q    Proof
		want bool
	}{
		{form(0, 1, 0), Proof{Mult: []api.Num{one, integer(0), integer(0)}}, true},
		{form(5, 1, 0), Proof{Mult: []api.Num{one, integer(0), integer(0)}}, true},
		{form(-1, 1, 0), Proof{Mult: []api.Num{one, integer(0), integer(0)}}, false},
		{form(0, 1, 1), Proof{Mult: []api.Num{one, integer(0), integer(0)}}, false},
		{form(3, 0, -1), Proof{Mult: []api.Num{integer(0), integer(-1), integer(0)}}, true},
		{form(0, -1, 0), Proof{Mult: []api.Num{integer(-1), integer(0), integer(0)}}, false},
		{form(0, 1, 0), Proof{Mult: []api.Num{two, integer(0), one}}, false},
		{form(4, 1, -1), Proof{Mult: []api.Num{two, integer(0), one}}, true},
		{form(4, 1, -1), Proof{Mult: []api.Num{{Top: 3, Low: 2}, {Top: -1, Low: 2}, half}}, true},
		{form(3, 1, -1), Proof{Mult: []api.Num{{Top: 3, Low: 2}, {Top: -1, Low: 2}, half}}, false},
		{form(3, 1, -1), Proof{Mult: []api.Num{two, integer(0), one}}, false},
		{form(0, 1, 0), Proof{Mult: []api.Num{one, integer(0)}}, false},
		{form(0, 1, 0), Proof{Mult: []api.Num{one, integer(0), integer(0), integer(0)}}, false},
		{form(0, 1, 0), Proof{Mult: []api.Num{one, {}, integer(0)}}, false},
		{form(0, 1, 0), Proof{Mult: []api.Num{{Top: 2, Low: 2}, integer(0), integer(0)}}, false},
		{form(0, 1, 0), Proof{Mult: []api.Num{{Top: -1, Low: -1}, integer(0), integer(0)}}, false},
		{form(0, 0, 0), Proof{}, false},
		{form(0, 1, 0), Proof{Void: true, Mult: []api.Num{one, integer(0), integer(0)}}, false},
	} {
		if is, e := Check(p, c.f, c.q); is != c.want || e != api.OK {
			t.Errorf("Check(%v, %v): %t, %d", c.f, c.q, is, e)
		}
	}
}

// P3.4: proofs that a polyhedron is empty have exactly the sum -1.
func TestCheckVoid(t *testing.T) {
	p := polyhedron(1, least(-1, 1), least(0, -1))
	for _, c := range []struct {
		m    []api.Num
		want bool
	}{
		{[]api.Num{integer(1), integer(1)}, true},
		{[]api.Num{integer(2), integer(2)}, false},
		{[]api.Num{integer(1), integer(0)}, false},
		{[]api.Num{integer(0), integer(0)}, false},
		{nil, false},
	} {
		if is, e := Check(p, form(-9, 5), Proof{true, c.m}); is != c.want || e != api.OK {
			t.Errorf("Check of %v: %t, %d", c.m, is, e)
		}
	}
	none := polyhedron(0, equal(2))
	for top, want := range map[int]bool{-1: true, 1: false} {
		if is, e := Check(none, form(-1), Proof{true, []api.Num{{Top: top, Low: 2}}}); is != want || e != api.OK {
			t.Errorf("Check of %d: %t, %d", top, is, e)
		}
	}
	if is, e := Check(polyhedron(0), form(0), Proof{}); !is || e != api.OK {
		t.Error("Check without conditions")
	}
}

// P3.4: sums may exceed all limits.
func TestCheckLarge(t *testing.T) {
	big, fine := integer(most), api.Num{Top: 1, Low: most}
	p := polyhedron(1, least(most, most), least(-most, -most), least(-most, 0), least(most, 0))
	zero := integer(0)
	for _, c := range []struct {
		m    []api.Num
		want bool
	}{
		{[]api.Num{big, big, zero, zero}, true},
		{[]api.Num{big, big, big, zero}, true},
		{[]api.Num{big, big, zero, big}, false},
		{[]api.Num{big, big, big, big}, true},
		{[]api.Num{big, {Top: most - 1, Low: 1}, zero, zero}, false},
		{[]api.Num{fine, {Top: 1, Low: most - 1}, zero, zero}, false},
		{[]api.Num{fine, fine, zero, fine}, false},
		{[]api.Num{fine, fine, fine, {Top: 1, Low: most - 1}}, false},
		{[]api.Num{fine, fine, {Top: 1, Low: most - 1}, fine}, true},
	} {
		if is, e := Check(p, form(0, 0), Proof{Mult: c.m}); is != c.want || e != api.OK {
			t.Errorf("Check of %v: %t, %d", c.m, is, e)
		}
	}
	random := rand.New(rand.NewSource(9))
	q, m := polyhedron(1), []api.Num{}
	for range api.MaxConds {
		q.Conds = append(q.Conds, least(random.Intn(most), random.Intn(most)))
		m = append(m, api.Num{Top: 1, Low: 1<<59 + 2*random.Intn(1<<58) + 1})
	}
	if is, e := Check(q, form(0, 1), Proof{Mult: m}); is || e != api.OK {
		t.Errorf("Check of many long fractions: %t, %d", is, e)
	}
}

// P3.4: Check accepts and refuses what the exact sums do.
func TestCheckSamples(t *testing.T) {
	random := rand.New(rand.NewSource(5))
	counts := map[bool]int{}
	small(func(p api.Poly, f api.Form) {
		is, q, _, _ := Entails(p, f)
		if !is {
			return
		}
		if len(q.Mult) > 0 && random.Intn(2) == 0 {
			q.Mult[random.Intn(len(q.Mult))].Top += random.Intn(3) - 1
		}
		f.Add -= random.Intn(3)
		rest, want := proves(p, f, q.Mult)
		want = want && rest.Sign() >= 0
		if q.Void {
			want = isVoid(p, q.Mult)
		}
		if got, e := Check(p, f, q); got != want || e != api.OK {
			t.Fatalf("Check(%v, %v, %v): %t, %d", p, f, q, got, e)
		}
		counts[want]++
	})
	if counts[true] < 200 || counts[false] < 200 {
		t.Error(counts)
	}
}

// P3.5
func TestRange(t *testing.T) {
	check := func(p api.Poly, f api.Form) {
		wantLow, e1 := Minimum(p, f)
		wantHigh, e2 := Minimum(p, opposite(f))
		if e1 != api.OK || e2 != api.OK {
			wantLow, wantHigh = Result{}, Result{}
		}
		low, high, e := Range(p, f)
		if !reflect.DeepEqual(low, wantLow) || !reflect.DeepEqual(high, wantHigh) || e != max(e1, e2) {
			t.Fatalf("Range(%v, %v): %v, %v, %d", p, f, low, high, e)
		}
	}
	small(check)
	other(check)
	check(polyhedron(1, least(-most, 1)), form(1, 1))
	check(polyhedron(1, least(most, -1)), form(1, 1))
}

// P3.1 to P3.5: arguments that are not valid, before all other errors.
func TestRefuse(t *testing.T) {
	many := polyhedron(1)
	for range api.MaxConds + 1 {
		many.Conds = append(many.Conds, least(0, 1))
	}
	nine := make([]int, api.MaxDim+1)
	goodP, goodF := polyhedron(2, least(0, 1, 1)), form(0, 1, 1)
	check := func(p api.Poly, f api.Form) {
		t.Helper()
		if r, e := Minimum(p, f); !reflect.DeepEqual(r, Result{}) || e != api.ErrArg {
			t.Errorf("Minimum(%v, %v): %v, %d", p, f, r, e)
		}
		if is, q, x, e := Entails(p, f); is || !reflect.DeepEqual(q, Proof{}) || x != nil || e != api.ErrArg {
			t.Errorf("Entails(%v, %v): %t, %v, %v, %d", p, f, is, q, x, e)
		}
		if is, e := Check(p, f, Proof{}); is || e != api.ErrArg {
			t.Errorf("Check(%v, %v): %t, %d", p, f, is, e)
		}
		if r, s, e := Range(p, f); !reflect.DeepEqual(r, Result{}) || !reflect.DeepEqual(s, Result{}) || e != api.ErrArg {
			t.Errorf("Range(%v, %v): %v, %v, %d", p, f, r, s, e)
		}
	}
	for _, p := range []api.Poly{
		polyhedron(-1), polyhedron(api.MaxDim + 1), polyhedron(math.MaxInt), polyhedron(math.MinInt),
		polyhedron(api.MaxDim+1, least(0, nine...)), many,
		polyhedron(2, least(0, 1)), polyhedron(2, least(0, 1, 1, 1)), polyhedron(2, api.Cond{}),
		polyhedron(2, least(most+1, 1, 1)), polyhedron(2, equal(0, 1, -most-1)), polyhedron(2, least(0, math.MinInt, 0)),
	} {
		check(p, goodF)
		check(p, form(0, make([]int, max(0, min(p.Dim, 9)))...))
		if x, is, m, e := Find(p); x != nil || is || m != nil || e != api.ErrArg {
			t.Errorf("Find(%v): %v, %t, %v, %d", p, x, is, m, e)
		}
	}
	for _, f := range []api.Form{{}, form(0, 1), form(0, 1, 1, 1), form(most+1, 1, 1), form(math.MinInt, 0, 0), form(0, most+1, 0)} {
		check(goodP, f)
	}
}

// P3.1 to P3.5: arguments stay as they are, and equal arguments have equal results.
func TestArgumentsStay(t *testing.T) {
	copied := func(p api.Poly) api.Poly {
		out := polyhedron(p.Dim)
		for _, c := range p.Conds {
			c.Form.Coef = append([]int{}, c.Form.Coef...)
			out.Conds = append(out.Conds, c)
		}
		return out
	}
	small(func(p api.Poly, f api.Form) {
		q, g := copied(p), form(f.Add, append([]int{}, f.Coef...)...)
		r, _ := Minimum(p, f)
		Find(p)
		_, proof, _, _ := Entails(p, f)
		Check(p, f, proof)
		Range(p, f)
		if len(p.Conds) > 0 && !reflect.DeepEqual(p, q) || f.Add != g.Add || len(f.Coef) > 0 && !reflect.DeepEqual(f, g) {
			t.Fatalf("%v, %v have become %v, %v", q, g, p, f)
		}
		if s, _ := Minimum(q, g); !reflect.DeepEqual(r, s) {
			t.Fatalf("different results: %v, %v", r, s)
		}
	})
}
