package poly

import (
	"math"
	"math/big"
	"math/rand"
	"reflect"
	"testing"

	"floodmark/api"
	"floodmark/lin"
)

const most = api.MaxNum

func form(add int, coef ...int) api.Form { return api.Form{Coef: coef, Add: add} }

func least(add int, coef ...int) api.Cond { return api.Cond{Form: form(add, coef...)} }

func equal(add int, coef ...int) api.Cond { return api.Cond{Form: form(add, coef...), Eq: true} }

func polyhedron(n int, conds ...api.Cond) api.Poly { return api.Poly{Dim: n, Conds: conds} }

func integer(n int) api.Num { return api.Num{Top: n, Low: 1} }

// value returns the value of f for x.
func value(f api.Form, x []api.Num) *big.Rat {
	sum := big.NewRat(int64(f.Add), 1)
	for i, c := range f.Coef {
		a := big.NewRat(int64(x[i].Top), int64(x[i].Low))
		sum.Add(sum, a.Mul(a, big.NewRat(int64(c), 1)))
	}
	return sum
}

func has(p api.Poly, x []api.Num) bool {
	for _, c := range p.Conds {
		if sign := value(c.Form, x).Sign(); sign < 0 || c.Eq && sign > 0 {
			return false
		}
	}
	return len(x) == p.Dim && lin.ValidPoint(p.Dim, x)
}

// bad returns polyhedra that are not valid, most of them in two variables.
func bad() []api.Poly {
	many := polyhedron(2)
	for i := range api.MaxConds + 1 {
		many.Conds = append(many.Conds, least(i, 0, 1))
	}
	return []api.Poly{
		many, polyhedron(-1), polyhedron(api.MaxDim + 1), polyhedron(math.MaxInt), polyhedron(math.MinInt),
		polyhedron(api.MaxDim+1, least(0, make([]int, api.MaxDim+1)...)),
		polyhedron(2, api.Cond{}), polyhedron(2, least(0, 1)), polyhedron(2, least(0, 1, 1, 1)), polyhedron(0, least(0, 1)),
		polyhedron(2, least(most+1, 1, 1)), polyhedron(2, equal(-most-1, 1, 1)), polyhedron(2, least(0, 1, most+1)),
		polyhedron(2, least(0, -most-1, 0)), polyhedron(2, least(0, 1, 1), least(math.MinInt, 1, 1)),
	}
}

// cube returns 0 <= x <= size for all variables.
func cube(n, size int) api.Poly {
	p := polyhedron(n)
	for i := range n {
		low, high := make([]int, n), make([]int, n)
		low[i], high[i] = 1, -1
		p.Conds = append(p.Conds, least(0, low...), least(size, high...))
	}
	return p
}

// round returns tangents of a parabola, which are all needed: for each k from
// first to last, y >= 2 k x - k^2.
func round(first, last int) api.Poly {
	p := polyhedron(2)
	for k := first; k <= last; k++ {
		p.Conds = append(p.Conds, least(k*k, -2*k, 1))
	}
	return p
}

// long is the point (1/2, 1/3), by equations whose echelon form is short; fine
// is a point whose numbers are not valid.
var (
	long = polyhedron(2, equal(-5*(most/6), 6*(most/6), 6*(most/6)), equal(-4*(most/6-1), 6*(most/6-1), 3*(most/6-1)))
	fine = polyhedron(2, equal(-1, most, most-1), equal(-1, most-2, most-5))
)

// P4.1
func TestValid(t *testing.T) {
	full := round(1, api.MaxConds)
	for _, p := range []api.Poly{{}, polyhedron(0, least(-most)), polyhedron(8, equal(most, make([]int, 8)...)), full, polyhedron(1, least(-most, most))} {
		if !Valid(p) {
			t.Errorf("not valid: %v", p)
		}
	}
	for _, p := range bad() {
		if Valid(p) {
			t.Errorf("valid: %v", p)
		}
	}
}

// P4.2
func TestHas(t *testing.T) {
	half, third := api.Num{Top: 1, Low: 2}, api.Num{Top: 1, Low: 3}
	p := polyhedron(2, least(0, 1, 0), equal(-5, 6, 6))
	for _, c := range []struct {
		p    api.Poly
		x    []api.Num
		want bool
	}{
		{p, []api.Num{half, third}, true},
		{p, []api.Num{third, half}, true},
		{p, []api.Num{half, half}, false},
		{p, []api.Num{third, third}, false},
		{p, []api.Num{{Top: -1, Low: 6}, integer(1)}, false},
		{polyhedron(0), nil, true},
		{polyhedron(0, least(0)), []api.Num{}, true},
		{polyhedron(0, least(-1)), nil, false},
		{polyhedron(0, equal(1)), nil, false},
		{polyhedron(2, least(0, most, -most)), []api.Num{integer(most), integer(most)}, true},
		{polyhedron(2, least(0, most, -most)), []api.Num{integer(most - 1), integer(most)}, false},
		{polyhedron(2, least(-1, most, most)), []api.Num{integer(most), integer(most)}, true},
		{polyhedron(2, least(0, 1, -1)), []api.Num{{Top: 1, Low: most}, {Top: 1, Low: most - 1}}, false},
		{polyhedron(2, least(0, -1, 1)), []api.Num{{Top: 1, Low: most}, {Top: 1, Low: most - 1}}, true},
		{polyhedron(2, equal(0, 1, -1)), []api.Num{{Top: 1, Low: most}, {Top: 1, Low: most - 1}}, false},
	} {
		if is, e := Has(c.p, c.x); is != c.want || e != api.OK {
			t.Errorf("Has(%v, %v): %t, %d", c.p, c.x, is, e)
		}
	}
	one := integer(1)
	for _, c := range []struct {
		x    []api.Num
		want api.Errno
	}{
		{nil, api.ErrDim}, {[]api.Num{one}, api.ErrDim}, {[]api.Num{one, one, one}, api.ErrDim},
		{[]api.Num{one, one, one, one, one, one, one, one}, api.ErrDim},
		{[]api.Num{one, one, one, one, one, one, one, one, one}, api.ErrArg},
		{[]api.Num{one, {}}, api.ErrArg}, {[]api.Num{{Top: 2, Low: 2}}, api.ErrArg}, {[]api.Num{one, {Top: most + 1, Low: 1}}, api.ErrArg},
	} {
		if is, e := Has(p, c.x); is || e != c.want {
			t.Errorf("Has of %v: %t, %d", c.x, is, e)
		}
	}
}

// P4.3
func TestEmptyAndRank(t *testing.T) {
	for _, c := range []struct {
		p    api.Poly
		want int
	}{
		{polyhedron(0), 0}, {polyhedron(0, least(5), equal(0)), 0}, {polyhedron(0, least(-1)), -1}, {polyhedron(0, equal(-1)), -1},
		{polyhedron(3), 3}, {polyhedron(3, equal(-1, 1, 1, 1)), 2}, {polyhedron(3, equal(-1, 1, 1, 1), equal(-2, 1, 1, 1)), -1},
		{polyhedron(2, least(-1, 1, 1), least(1, -1, -1)), 1},
		{polyhedron(2, least(-1, 1, 1), least(2, -2, -2), least(0, 1, -1), least(0, -1, 1)), 0},
		{polyhedron(2, least(0, 1, 0), least(0, 0, 1), least(0, -1, -1)), 0},
		{polyhedron(2, least(0, 1, 0), least(0, 0, 1), least(-1, -1, -1)), -1},
		{polyhedron(2, least(0, 1, 0), least(0, 0, 1), least(1, -1, -1)), 2},
		{polyhedron(1, least(-1, 0)), -1}, {polyhedron(1, least(0, 0)), 1}, {polyhedron(1, least(-1, 1), least(0, -1)), -1},
		{long, 0}, {fine, 0}, {round(1, api.MaxConds), 2}, {cube(8, 1), 8}, {cube(8, 0), 0}, {cube(8, -1), -1},
	} {
		if n, e := Rank(c.p); n != c.want || e != api.OK {
			t.Errorf("Rank(%v): %d, %d", c.p, n, e)
		}
		if is, e := Empty(c.p); is != (c.want < 0) || e != api.OK {
			t.Errorf("Empty(%v): %t, %d", c.p, is, e)
		}
	}
	samples(400, func(random *rand.Rand, p, q api.Poly) {
		is, e := Empty(p)
		if is == solvable(p.Dim, sides(p.Conds)) || e != api.OK {
			t.Fatalf("Empty(%v): %t, %d", p, is, e)
		}
		canon, _ := Canon(p)
		want := p.Dim
		for _, c := range canon.Conds {
			if c.Eq {
				want--
			}
		}
		if is {
			want = -1
		}
		if n, e := Rank(p); n != want || e != api.OK {
			t.Fatalf("Rank(%v): %d, %d", p, n, e)
		}
	})
}

// P4.3
func TestBounded(t *testing.T) {
	for _, c := range []struct {
		p    api.Poly
		want bool
	}{
		{polyhedron(0), true}, {polyhedron(0, least(-1)), true}, {polyhedron(1), false}, {polyhedron(1, least(0, 1)), false},
		{polyhedron(1, least(0, -1)), false}, {polyhedron(1, least(0, 1), least(9, -2)), true}, {polyhedron(1, equal(0, 1)), true},
		{polyhedron(2, equal(0, 1, 0)), false}, {polyhedron(2, least(0, 1, 0), least(0, 0, 1)), false},
		{polyhedron(2, least(0, 1, 0), least(0, 0, 1), least(0, -1, -1)), true}, {polyhedron(2, equal(-1, 0, 0)), true},
		{polyhedron(2, least(0, 1, -1), least(1, -1, 1)), false}, {polyhedron(2, least(-1, 1, 0), least(0, -1, 0)), true},
		{cube(8, 1), true}, {polyhedron(8, cube(8, 1).Conds[:15]...), false}, {polyhedron(8, cube(8, 1).Conds[1:]...), false},
		{round(1, 9), false}, {fine, true},
	} {
		if is, e := Bounded(c.p); is != c.want || e != api.OK {
			t.Errorf("Bounded(%v): %t, %d", c.p, is, e)
		}
	}
}

// isCanonical reports whether c has all properties of the canonical form of p.
func isCanonical(p, c api.Poly) bool {
	n := p.Dim
	if c.Dim != n || !contains(p, c) || !contains(c, p) {
		return false
	}
	if !solvable(n, sides(p.Conds)) {
		return Identical(c, polyhedron(n, least(-1, make([]int, n)...)))
	}
	var equations []api.Form
	for _, d := range c.Conds {
		if d.Eq {
			equations = append(equations, d.Form)
		}
	}
	echelon, _, _ := lin.Echelon(n, equations)
	for i, d := range c.Conds {
		if d.Eq {
			if i >= len(echelon) || !reflect.DeepEqual(d.Form, echelon[i]) {
				return false
			}
			continue
		}
		rest := append(append([]api.Cond{}, c.Conds[:i]...), c.Conds[i+1:]...)
		if i < len(echelon) || !isReduced(d.Form, echelon) || !can(n, c.Conds, d.Form, 1) || !can(n, rest, d.Form, -1) {
			return false
		}
		if i > len(echelon) && !isLess(c.Conds[i-1].Form, d.Form) {
			return false
		}
	}
	return true
}

func isReduced(f api.Form, echelon []api.Form) bool {
	primitive, _ := lin.Primitive(len(f.Coef), f)
	for _, g := range echelon {
		v := 0
		for g.Coef[v] == 0 {
			v++
		}
		if f.Coef[v] != 0 {
			return false
		}
	}
	return reflect.DeepEqual(f, primitive)
}

func isLess(f, g api.Form) bool {
	for i, x := range f.Coef {
		if x != g.Coef[i] {
			return x < g.Coef[i]
		}
	}
	return f.Add < g.Add
}

// P4.4, P4.12
func TestCanon(t *testing.T) {
	ranks := map[int]int{}
	samples(1200, func(random *rand.Rand, p, q api.Poly) {
		c, e := Canon(p)
		if e != api.OK || !isCanonical(p, c) {
			t.Fatalf("Canon(%v): %v, %d", p, c, e)
		}
		for _, r := range []api.Poly{c, rewritten(random, p), rewritten(random, c)} {
			if d, e := Canon(r); e != api.OK || !Identical(c, d) {
				t.Fatalf("Canon(%v): %v, not %v as of %v", r, d, c, p)
			}
		}
		rank, _ := Rank(p)
		ranks[rank]++
		d, _ := Canon(q)
		if Identical(c, d) != (contains(p, q) && contains(q, p)) {
			t.Fatalf("canonical forms of %v and %v: %v and %v", p, q, c, d)
		}
	})
	for rank := -1; rank <= 3; rank++ {
		if ranks[rank] < 40 {
			t.Errorf("only %d samples have rank %d", ranks[rank], rank)
		}
	}
}

// P4.4, P4.12
func TestCanonExamples(t *testing.T) {
	none := polyhedron(2, least(-1, 0, 0))
	for _, c := range [][2]api.Poly{
		{polyhedron(2, least(-2, 1, 1), least(4, -2, -2), least(0, 1, 0), least(3, 0, -1)), polyhedron(2, equal(-2, 1, 1), least(2, 0, -1))},
		{polyhedron(0), polyhedron(0)},
		{polyhedron(0, least(3), equal(0)), polyhedron(0)},
		{polyhedron(0, least(3), equal(1)), polyhedron(0, least(-1))},
		{polyhedron(2), polyhedron(2)},
		{polyhedron(2, least(0, 0, 0), equal(0, 0, 0), least(7, 0, 0)), polyhedron(2)},
		{polyhedron(2, least(-7, 0, 0)), none},
		{polyhedron(2, equal(-7, 0, 0)), none},
		{polyhedron(2, least(-1, 1, 1), least(0, -1, -1)), none},
		{polyhedron(2, least(-3, 2, 0), least(-6, 4, 0), least(-2, 2, 0)), polyhedron(2, least(-3, 2, 0))},
		{polyhedron(2, equal(6, -2, -4)), polyhedron(2, equal(-3, 1, 2))},
		{polyhedron(2, equal(-1, 2, 0), least(0, 6, 3)), polyhedron(2, equal(-1, 2, 0), least(1, 0, 1))},
		{polyhedron(2, least(5, 0, 1), least(4, 1, 0), least(3, 0, -1), least(2, -1, 0)), polyhedron(2, least(2, -1, 0), least(3, 0, -1), least(5, 0, 1), least(4, 1, 0))},
		{polyhedron(2, least(0, 1, 0), least(0, 0, 1), least(0, -1, -1)), polyhedron(2, equal(0, 1, 0), equal(0, 0, 1))},
		{polyhedron(2, least(0, 1, 0), least(0, 0, 1), least(0, 1, 1)), polyhedron(2, least(0, 0, 1), least(0, 1, 0))},
		{polyhedron(2, least(0, most, most), least(0, -most, 0)), polyhedron(2, least(0, -1, 0), least(0, 1, 1))},
		{long, polyhedron(2, equal(-1, 2, 0), equal(-1, 0, 3))},
		{round(1, api.MaxConds), reversed(round(1, api.MaxConds))},
		{cube(8, 0), polyhedron(8, equal(0, 1, 0, 0, 0, 0, 0, 0, 0), equal(0, 0, 1, 0, 0, 0, 0, 0, 0), equal(0, 0, 0, 1, 0, 0, 0, 0, 0), equal(0, 0, 0, 0, 1, 0, 0, 0, 0),
			equal(0, 0, 0, 0, 0, 1, 0, 0, 0), equal(0, 0, 0, 0, 0, 0, 1, 0, 0), equal(0, 0, 0, 0, 0, 0, 0, 1, 0), equal(0, 0, 0, 0, 0, 0, 0, 0, 1))},
	} {
		if got, e := Canon(c[0]); !Identical(got, c[1]) || e != api.OK {
			t.Errorf("Canon(%v): %v, %d", c[0], got, e)
		}
	}
}

// reversed returns the conditions in the other order, which sorts those of round.
func reversed(p api.Poly) api.Poly {
	out := polyhedron(p.Dim)
	for i := range p.Conds {
		out.Conds = append(out.Conds, p.Conds[len(p.Conds)-1-i])
	}
	return out
}

// P4.4: only a canonical form that is not valid is refused.
func TestCanonFull(t *testing.T) {
	for _, p := range []api.Poly{fine, polyhedron(2, equal(0, most, most-1), least(1, most-2, most-5))} {
		if c, e := Canon(p); e != api.ErrFull || !reflect.DeepEqual(c, api.Poly{}) {
			t.Errorf("Canon(%v): %v, %d", p, c, e)
		}
	}
	p := polyhedron(2, append(fine.Conds, least(most-7, most-3, 1), least(-1, 0, 0))...)
	if c, e := Canon(p); e != api.OK || !Identical(c, polyhedron(2, least(-1, 0, 0))) {
		t.Errorf("Canon(%v): %v, %d", p, c, e)
	}
}

// P4.5, P4.13
func TestMeet(t *testing.T) {
	samples(600, func(random *rand.Rand, p, q api.Poly) {
		r, e := Meet(p, q)
		both := polyhedron(p.Dim, append(append([]api.Cond{}, p.Conds...), q.Conds...)...)
		if e != api.OK || !isCanonical(both, r) {
			t.Fatalf("Meet(%v, %v): %v, %d", p, q, r, e)
		}
		for range 5 {
			x := make([]api.Num, p.Dim)
			for i := range x {
				x[i] = integer(random.Intn(5) - 2)
			}
			inP, _ := Has(p, x)
			inQ, _ := Has(q, x)
			if is, _ := Has(r, x); is != (inP && inQ) {
				t.Fatalf("Meet(%v, %v): %v has %v", p, q, r, x)
			}
		}
	})
	got, e := Meet(polyhedron(2, least(0, 1, 0), least(2, -1, 0)), polyhedron(2, least(-1, 1, 0), equal(-3, 0, 1)))
	if !Identical(got, polyhedron(2, equal(-3, 0, 1), least(2, -1, 0), least(-1, 1, 0))) || e != api.OK {
		t.Errorf("%v, %d", got, e)
	}
}

// P4.5: the polyhedra may have more than MaxConds conditions together.
func TestMeetLarge(t *testing.T) {
	p := round(1, api.MaxConds)
	if r, e := Meet(p, round(2, api.MaxConds+1)); e != api.ErrFull || !reflect.DeepEqual(r, api.Poly{}) {
		t.Errorf("121 needed conditions: %d, %d", len(r.Conds), e)
	}
	if r, e := Meet(p, p); e != api.OK || len(r.Conds) != api.MaxConds {
		t.Errorf("120 needed conditions twice: %d, %d", len(r.Conds), e)
	}
	q := polyhedron(2)
	for i := range api.MaxConds {
		q.Conds = append(q.Conds, least(i+1, 0, -1))
	}
	if r, e := Meet(p, q); e != api.OK || !Identical(r, polyhedron(2, least(1, -2, 1), least(1, 0, -1))) {
		t.Errorf("two needed conditions of 240: %v, %d", r, e)
	}
	if r, e := Meet(fine, polyhedron(2, least(-1, 1, 0))); e != api.OK || !Identical(r, polyhedron(2, least(-1, 0, 0))) {
		t.Errorf("no point: %v, %d", r, e)
	}
}

// P4.6, P4.7
func TestEqualAndIncluded(t *testing.T) {
	counts := map[[2]bool]int{}
	samples(1200, func(random *rand.Rand, p, q api.Poly) {
		if random.Intn(3) == 0 {
			q = rewritten(random, p)
			if len(q.Conds) > 0 && random.Intn(2) == 0 {
				q.Conds = q.Conds[1:]
			}
		}
		pInQ, qInP := contains(q, p), contains(p, q)
		is, x, e := Included(p, q)
		if is != pInQ || is && x != nil || !is && (!has(p, x) || has(q, x)) || e != api.OK {
			t.Fatalf("Included(%v, %v): %t, %v, %d", p, q, is, x, e)
		}
		if is, e := Equal(p, q); is != (pInQ && qInP) || e != api.OK {
			t.Fatalf("Equal(%v, %v): %t, %d", p, q, is, e)
		}
		counts[[2]bool{pInQ, qInP}]++
	})
	for _, c := range [][2]bool{{true, true}, {true, false}, {false, true}, {false, false}} {
		if counts[c] < 50 {
			t.Error(counts)
		}
	}
}

// P4.6, P4.7
func TestInclusionsOfLargeNumbers(t *testing.T) {
	for _, c := range []struct {
		p, q      api.Poly
		is, equal bool
	}{
		{fine, fine, true, true}, {fine, polyhedron(2), true, false}, {polyhedron(2, least(-1, 0, 0)), fine, true, false},
		{long, polyhedron(2, equal(-1, 2, 0), equal(-1, 0, 3)), true, true}, {round(1, 120), round(1, 119), true, false},
		{polyhedron(1, least(-most, most)), polyhedron(1, least(-1, 1)), true, true},
		{polyhedron(1, least(-most, most-1)), polyhedron(1, least(-1, 1)), true, false},
		{polyhedron(0), polyhedron(0, least(1)), true, true}, {polyhedron(0, equal(1)), polyhedron(0), true, false},
	} {
		if is, x, e := Included(c.p, c.q); is != c.is || x != nil || e != api.OK {
			t.Errorf("Included(%v, %v): %t, %v, %d", c.p, c.q, is, x, e)
		}
		if is, e := Equal(c.p, c.q); is != c.equal || e != api.OK {
			t.Errorf("Equal(%v, %v): %t, %d", c.p, c.q, is, e)
		}
	}
	if is, x, e := Included(fine, polyhedron(2, least(-1, 1, 0))); is || x != nil || e != api.ErrFull {
		t.Errorf("a point that is not valid: %t, %v, %d", is, x, e)
	}
}

// P4.7, P4.8: small polyhedra always have points that are found. Long edges
// and flat corners need long numbers.
func TestSmallPoints(t *testing.T) {
	random := rand.New(rand.NewSource(8))
	draw := func(conds int) api.Poly {
		p := polyhedron(1 + random.Intn(3))
		base := make([]int, p.Dim)
		for range conds {
			c := least(random.Intn(2001)-1000, make([]int, p.Dim)...)
			for i := range c.Form.Coef {
				c.Form.Coef[i] = random.Intn(2001) - 1000
				if random.Intn(2) == 0 { // nearly parallel ones
					c.Form.Coef[i] = max(-1000, min(1000, base[i]+random.Intn(3)-1))
				}
			}
			c.Eq = random.Intn(8) == 0
			if c.Eq && random.Intn(2) == 0 {
				c.Form.Add = 0
			}
			base = c.Form.Coef
			p.Conds = append(p.Conds, c)
		}
		return p
	}
	found := 0
	for range 3000 {
		p, q := draw(random.Intn(7)), draw(1+random.Intn(10))
		q.Dim = p.Dim
		for i, c := range q.Conds {
			q.Conds[i].Form.Coef = append(c.Form.Coef, 0, 0)[:p.Dim]
		}
		if is, x, e := Included(p, q); e != api.OK || !is && (!has(p, x) || has(q, x)) {
			t.Fatalf("Included(%v, %v): %t, %v, %d", p, q, is, x, e)
		}
		x, e := Inner(p)
		if e == api.ErrNone {
			continue
		}
		found++
		c, _ := Canon(p)
		if e != api.OK || !isInner(p, c, x) {
			t.Fatalf("Inner(%v): %v, %d", p, x, e)
		}
	}
	if found < 500 {
		t.Errorf("only %d samples have points", found)
	}
}

// isInner reports whether x is a point of p, and no inequality of its
// canonical form c is 0 there.
func isInner(p, c api.Poly, x []api.Num) bool {
	for _, d := range c.Conds {
		if !d.Eq && value(d.Form, x).Sign() <= 0 {
			return false
		}
	}
	return has(p, x)
}

// P4.8
func TestInner(t *testing.T) {
	samples(1000, func(random *rand.Rand, p, q api.Poly) {
		x, e := Inner(p)
		if e == api.ErrNone && x == nil && !solvable(p.Dim, sides(p.Conds)) {
			return
		}
		c, _ := Canon(p)
		if e != api.OK || !isInner(p, c, x) {
			t.Fatalf("Inner(%v): %v, %d", p, x, e)
		}
	})
	for _, p := range []api.Poly{polyhedron(0), polyhedron(8), long, round(1, api.MaxConds), cube(8, 1), cube(8, 0)} {
		c, _ := Canon(p)
		if x, e := Inner(p); e != api.OK || !isInner(p, c, x) {
			t.Errorf("Inner(%v): %v, %d", p, x, e)
		}
	}
	if x, e := Inner(fine); x != nil || e != api.ErrFull {
		t.Errorf("a point that is not valid: %v, %d", x, e)
	}
	for _, p := range []api.Poly{polyhedron(0, equal(1)), cube(8, -1)} {
		if x, e := Inner(p); x != nil || e != api.ErrNone {
			t.Errorf("Inner(%v): %v, %d", p, x, e)
		}
	}
}

// P4.9
func TestAllAndNone(t *testing.T) {
	for n := range api.MaxDim + 1 {
		if p, e := All(n); !Identical(p, polyhedron(n)) || e != api.OK {
			t.Errorf("All(%d): %v, %d", n, p, e)
		}
		if p, e := None(n); !Identical(p, polyhedron(n, least(-1, make([]int, n)...))) || e != api.OK {
			t.Errorf("None(%d): %v, %d", n, p, e)
		}
	}
	for _, n := range []int{-1, api.MaxDim + 1, math.MinInt, math.MaxInt} {
		if p, e := All(n); !reflect.DeepEqual(p, api.Poly{}) || e != api.ErrRange {
			t.Errorf("All(%d): %v, %d", n, p, e)
		}
		if p, e := None(n); !reflect.DeepEqual(p, api.Poly{}) || e != api.ErrRange {
			t.Errorf("None(%d): %v, %d", n, p, e)
		}
	}
}

// P4.10
func TestIdentical(t *testing.T) {
	p := polyhedron(2, least(1, 2, 3), equal(4, 5, 6))
	if !Identical(p, polyhedron(2, least(1, 2, 3), equal(4, 5, 6))) {
		t.Error("equal values are not identical")
	}
	for _, q := range []api.Poly{
		polyhedron(3, p.Conds...), polyhedron(2, p.Conds[0]), polyhedron(2, p.Conds[1], p.Conds[0]),
		polyhedron(2, equal(1, 2, 3), equal(4, 5, 6)), polyhedron(2, least(0, 2, 3), equal(4, 5, 6)),
		polyhedron(2, least(1, 2, 2), equal(4, 5, 6)), polyhedron(2, least(1, 2), equal(4, 5, 6)),
		polyhedron(2, least(1, 2, 3), equal(4, 5, 6), equal(4, 5, 6)),
	} {
		if Identical(p, q) || Identical(q, p) {
			t.Errorf("%v and %v are identical", p, q)
		}
	}
	if !Identical(api.Poly{}, polyhedron(0, []api.Cond{}...)) || !Identical(polyhedron(0, api.Cond{}), polyhedron(0, least(0, []int{}...))) {
		t.Error("an empty list is not nil")
	}
	for _, p := range bad() {
		if !Identical(p, p) {
			t.Errorf("%v and itself", p)
		}
	}
}

// P4.2 to P4.8, P4.11: polyhedra that are not valid, before all other errors;
// then different numbers of variables.
func TestRefuse(t *testing.T) {
	check := func(p, q api.Poly, want api.Errno) {
		t.Helper()
		if r, e := Meet(p, q); !reflect.DeepEqual(r, api.Poly{}) || e != want {
			t.Errorf("Meet(%v, %v): %v, %d", p, q, r, e)
		}
		if is, e := Equal(p, q); is || e != want {
			t.Errorf("Equal(%v, %v): %t, %d", p, q, is, e)
		}
		if is, x, e := Included(p, q); is || x != nil || e != want {
			t.Errorf("Included(%v, %v): %t, %v, %d", p, q, is, x, e)
		}
	}
	for _, p := range bad() {
		for _, q := range []api.Poly{polyhedron(2), polyhedron(3), polyhedron(2, least(-1, 0, 0)), p} {
			check(p, q, api.ErrArg)
			check(q, p, api.ErrArg)
		}
		is, e1 := Has(p, []api.Num{integer(1), integer(2)})
		is2, e2 := Empty(p)
		n, e3 := Rank(p)
		is3, e4 := Bounded(p)
		c, e5 := Canon(p)
		x, e6 := Inner(p)
		text, e7 := Print(nil, p)
		if is || is2 || n != 0 || is3 || !reflect.DeepEqual(c, api.Poly{}) || x != nil || text != "" {
			t.Errorf("results for %v: %t, %t, %d, %t, %v, %v, %q", p, is, is2, n, is3, c, x, text)
		}
		for i, e := range []api.Errno{e1, e2, e3, e4, e5, e6, e7} {
			if e != api.ErrArg {
				t.Errorf("error %d for %v: %d", i, p, e)
			}
		}
	}
	check(polyhedron(2), polyhedron(3), api.ErrDim)
	check(polyhedron(0), polyhedron(1, least(-1, 0)), api.ErrDim)
}

func copied(p api.Poly) api.Poly {
	out := polyhedron(p.Dim)
	for _, c := range p.Conds {
		out.Conds = append(out.Conds, api.Cond{Form: form(c.Form.Add, append([]int{}, c.Form.Coef...)...), Eq: c.Eq})
	}
	return out
}

func overwrite(p api.Poly) {
	for i, c := range p.Conds {
		for j := range c.Form.Coef {
			c.Form.Coef[j] = 78
		}
		p.Conds[i] = api.Cond{}
	}
}

// P4.4, P4.5, P4.9: results share no memory with arguments and other results,
// and arguments stay as they are.
func TestMemory(t *testing.T) {
	samples(300, func(random *rand.Rand, p, q api.Poly) {
		oldP, oldQ := copied(p), copied(q)
		c, _ := Canon(p)
		d, _ := Canon(p)
		m, _ := Meet(p, q)
		oldD, oldM := copied(d), copied(m)
		Included(p, q)
		Equal(p, q)
		Inner(p)
		Bounded(p)
		overwrite(c)
		if !Identical(d, oldD) || !Identical(m, oldM) {
			t.Fatal("results share memory")
		}
		overwrite(d)
		overwrite(m)
		if !Identical(p, oldP) || !Identical(q, oldQ) {
			t.Fatalf("%v, %v have become %v, %v", oldP, oldQ, p, q)
		}
	})
	p, _ := None(2)
	q, _ := None(2)
	overwrite(p)
	if !Identical(q, polyhedron(2, least(-1, 0, 0))) {
		t.Error("results of None share memory")
	}
}
