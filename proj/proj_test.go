package proj

import (
	"math"
	"math/big"
	"math/rand"
	"reflect"
	"slices"
	"testing"

	"floodmark/api"
	"floodmark/gen"
	"floodmark/lp"
	"floodmark/poly"
)

const most = api.MaxNum

func least(add int, coef ...int) api.Cond {
	return api.Cond{Form: api.Form{Coef: coef, Add: add}}
}

func equal(add int, coef ...int) api.Cond {
	return api.Cond{Form: api.Form{Coef: coef, Add: add}, Eq: true}
}

func polyhedron(n int, conds ...api.Cond) api.Poly { return api.Poly{Dim: n, Conds: conds} }

func integer(n int) api.Num { return api.Num{Top: n, Low: 1} }

func point(l ...int) []api.Num {
	x := make([]api.Num, 0, len(l))
	for _, n := range l {
		x = append(x, integer(n))
	}
	return x
}

// has reports whether x is a point of p.
func has(p api.Poly, x []api.Num) bool {
	for _, c := range p.Conds {
		sum := big.NewRat(int64(c.Form.Add), 1)
		for i, a := range c.Form.Coef {
			b := big.NewRat(int64(x[i].Top), int64(x[i].Low))
			sum.Add(sum, b.Mul(b, big.NewRat(int64(a), 1)))
		}
		if sum.Sign() < 0 || c.Eq && sum.Sign() > 0 {
			return false
		}
	}
	return len(x) == p.Dim
}

// at returns the elements of x at the variables.
func at[T any](x []T, vars []int) []T {
	var out []T
	for _, v := range vars {
		out = append(out, x[v])
	}
	return out
}

// bad returns polyhedra that are not valid.
func bad() []api.Poly {
	many := polyhedron(2)
	for i := range api.MaxConds + 1 {
		many.Conds = append(many.Conds, least(i, 0, 1))
	}
	return []api.Poly{
		many, polyhedron(-1), polyhedron(api.MaxDim + 1), polyhedron(math.MaxInt), polyhedron(math.MinInt), polyhedron(2, api.Cond{}),
		polyhedron(2, least(0, 1)), polyhedron(2, least(0, 1, 1, 1)), polyhedron(2, least(most+1, 1, 1)), polyhedron(2, equal(0, 1, -most-1)),
	}
}

// sample returns a random polyhedron with small integers, among them many 0s
// and conditions that belong together.
func sample(random *rand.Rand, n, conds int) api.Poly {
	one := func() int { return (random.Intn(7) - 3) * random.Intn(2) }
	p := api.Poly{Dim: n}
	for range conds {
		c := api.Cond{Form: api.Form{Coef: make([]int, n), Add: one() + random.Intn(3)}, Eq: random.Intn(10) == 0}
		for i := range c.Form.Coef {
			c.Form.Coef[i] = one()
		}
		if len(p.Conds) > 0 && random.Intn(5) == 0 {
			d := p.Conds[random.Intn(len(p.Conds))]
			factor := random.Intn(4) - 1
			for i, x := range d.Form.Coef {
				c.Form.Coef[i] = factor * x
			}
			c.Form.Add = factor*d.Form.Add + random.Intn(3)/2
		}
		p.Conds = append(p.Conds, c)
	}
	return p
}

func place(random *rand.Rand, n int) []api.Num {
	x := make([]api.Num, n)
	for i := range x {
		top := (random.Intn(9) - 4) * random.Intn(2)
		if x[i] = integer(top); top%2 != 0 && random.Intn(2) == 0 {
			x[i].Low = 2
		}
	}
	return x
}

// samples calls a test with many random polyhedra and lists of variables.
func samples(times int, test func(random *rand.Rand, p api.Poly, vars []int)) {
	random := rand.New(rand.NewSource(11))
	for range times {
		n := random.Intn(5)
		test(random, sample(random, n, random.Intn(9)), random.Perm(n)[:random.Intn(n+1)])
	}
}

// isCanonical reports whether p is its own canonical form.
func isCanonical(p api.Poly) bool {
	c, e := poly.Canon(p)
	return e == api.OK && poly.Identical(p, c)
}

// isProjection reports whether q is the projection of p: all conditions of q
// follow from p, and all generators of q come from points and directions of p.
func isProjection(p, q api.Poly, vars []int) bool {
	if is, _ := poly.Empty(p); is {
		return poly.Identical(q, polyhedron(len(vars), least(-1, make([]int, len(vars))...)))
	}
	for _, c := range q.Conds {
		f := api.Form{Coef: make([]int, p.Dim), Add: c.Form.Add}
		for i, v := range vars {
			f.Coef[v] = c.Form.Coef[i]
		}
		low, high, e := lp.Range(p, f)
		if e != api.OK || low.Kind != lp.Finite || low.Value != integer(0) || c.Eq && (high.Kind != lp.Finite || high.Value != integer(0)) {
			return false
		}
	}
	g, e := gen.Of(q)
	if e != api.OK || !isCanonical(q) || q.Dim != len(vars) {
		return false
	}
	for _, x := range g.Points {
		if y, e := Lift(p, vars, x); e != api.OK || !has(p, y) || !slices.Equal(at(y, vars), x) {
			return false
		}
	}
	ends := polyhedron(p.Dim) // the directions in which p has no end
	for _, c := range p.Conds {
		ends.Conds = append(ends.Conds, api.Cond{Form: api.Form{Coef: c.Form.Coef}, Eq: c.Eq})
	}
	for i, d := range slices.Concat(g.Rays, g.Lines, g.Lines) {
		x := point(d...)
		for k := range x {
			if i >= len(g.Rays)+len(g.Lines) {
				x[k].Top = -x[k].Top
			}
		}
		if y, e := Lift(ends, vars, x); e != api.OK || !has(ends, y) || !slices.Equal(at(y, vars), x) {
			return false
		}
	}
	return true
}

// P6.1, P6.6, P6.7
func TestProject(t *testing.T) {
	counts := map[[2]int]int{}
	samples(2500, func(random *rand.Rand, p api.Poly, vars []int) {
		q, e := Project(p, vars)
		if is, _ := poly.Empty(p); !is {
			counts[[2]int{p.Dim, len(vars)}]++
		}
		if e != api.OK || !isProjection(p, q, vars) {
			t.Fatalf("Project(%v, %v): %v, %d", p, vars, q, e)
		}
		x := place(random, len(vars))
		if _, e := Lift(p, vars, x); (e == api.OK) != has(q, x) {
			t.Fatalf("Project(%v, %v): %v; Lift of %v: %d", p, vars, q, x, e)
		}
		second := random.Perm(len(vars))[:random.Intn(len(vars)+1)]
		r, e := Project(q, second)
		if once, _ := Project(p, at(vars, second)); e != api.OK || !poly.Identical(r, once) {
			t.Fatalf("Project(%v, %v) and then to %v: %v, %d; not %v", p, vars, second, r, e, once)
		}
	})
	for n := range 5 {
		for m := range n + 1 {
			if counts[[2]int{n, m}] < 20 {
				t.Errorf("only %d samples with points, from %d variables to %d", counts[[2]int{n, m}], n, m)
			}
		}
	}
}

// P6.1
func TestProjectExamples(t *testing.T) {
	steep := polyhedron(2, least(0, 1, 0), least(5, -1, 0), least(-1, 2-most, most), least(9, 0, -1))
	for _, c := range []struct {
		p    api.Poly
		vars []int
		want api.Poly
	}{
		{polyhedron(2, equal(-3, 1, 1), least(0, 1, 0), least(-1, 0, 1)), []int{0}, polyhedron(1, least(2, -1), least(0, 1))},
		{polyhedron(0), nil, polyhedron(0)},
		{polyhedron(0, least(-1)), nil, polyhedron(0, least(-1))},
		{polyhedron(2, least(-1, 1, 0)), nil, polyhedron(0)},
		{polyhedron(2, least(-1, 1, 0), least(0, -1, 0)), nil, polyhedron(0, least(-1))},
		{polyhedron(2, least(-1, 1, 0), least(0, -1, 0)), []int{1}, polyhedron(1, least(-1, 0))},
		{polyhedron(2, least(-1, 1, 0)), []int{1}, polyhedron(1)},
		{polyhedron(2, least(-1, 1, 0), least(-2, 2, 0)), []int{1, 0}, polyhedron(2, least(-1, 0, 1))},
		{polyhedron(3, equal(0, 1, -2, 0), equal(-1, 0, 1, -1)), []int{2, 0}, polyhedron(2, equal(2, 2, -1))},
		{steep, []int{0}, polyhedron(1, least(5, -1), least(0, 1))}, // the corners of it are not valid
		{polyhedron(2, equal(-1, most, most-1), equal(-1, most-2, most-5)), nil, polyhedron(0)},
	} {
		if q, e := Project(c.p, c.vars); !poly.Identical(q, c.want) || e != api.OK {
			t.Errorf("Project(%v, %v): %v, %d", c.p, c.vars, q, e)
		}
	}
	if g, e := gen.Of(steep); e != api.ErrFull {
		t.Errorf("%v, %d", g, e)
	}
	if q, e := Project(polyhedron(2, equal(-1, most, most-1), equal(-1, most-2, most-5)), []int{0}); e != api.ErrFull || !reflect.DeepEqual(q, api.Poly{}) {
		t.Errorf("a result that is not valid: %v, %d", q, e)
	}
}

// P6.1: a moderate polyhedron with more corners than generators may have.
func TestProjectManyCorners(t *testing.T) {
	const n = 24
	p, sum := polyhedron(4), [4]int{}
	curve := func(i int) [4]int {
		x := i - n/2
		return [4]int{x, x * x, x * x * x, x * x * x * x}
	}
	for i := range n {
		for k, x := range curve(i) {
			sum[k] += x
		}
	}
	for i := range n {
		c := least(n, 0, 0, 0, 0)
		for k, x := range curve(i) {
			c.Form.Coef[k] = sum[k] - n*x
		}
		p.Conds = append(p.Conds, c)
	}
	if _, e := gen.Of(p); e != api.ErrFull {
		t.Errorf("Of: %d", e)
	}
	for _, vars := range [][]int{{0}, {3, 1}, {2, 0, 1}, {3, 1, 0, 2}} {
		if q, e := Project(p, vars); e != api.OK || !isCanonical(q) {
			t.Errorf("Project to %v: %v, %d", vars, q, e)
		} else if len(vars) < 3 && !isProjection(p, q, vars) {
			t.Errorf("Project to %v: %v", vars, q)
		}
	}
	if q, e := Project(p, []int{1, 2, 3}); e != api.ErrFull || !reflect.DeepEqual(q, api.Poly{}) { // more than MaxConds conditions
		t.Errorf("%d conditions, %d", len(q.Conds), e)
	}
}

// P6.1: polyhedra that are not moderate; what is returned is the projection.
func TestProjectLarge(t *testing.T) {
	random := rand.New(rand.NewSource(12))
	for n := 5; n <= api.MaxDim; n++ {
		p := sample(random, n, 6)
		if q, e := Project(p, []int{n - 1, 0}); e != api.OK || !isProjection(p, q, []int{n - 1, 0}) {
			t.Errorf("Project(%v): %v, %d", p, q, e)
		}
		p = sample(random, n, api.MaxConds)
		for i := range p.Conds {
			p.Conds[i].Form.Add, p.Conds[i].Eq = 1+random.Intn(most), false
			for k := range p.Conds[i].Form.Coef {
				p.Conds[i].Form.Coef[k] = random.Intn(most) - random.Intn(most)
			}
		}
		if q, e := Project(p, []int{1}); e == api.OK && !isProjection(p, q, []int{1}) || e != api.OK && e != api.ErrFull {
			t.Errorf("Project(%v): %v, %d", p, q, e)
		}
		vars := random.Perm(n)
		back := make([]int, n)
		for i, v := range vars {
			back[v] = i
		}
		want, _ := Embed(p, n, back)
		if q, e := Project(p, vars); e != api.OK || !poly.Identical(q, want) {
			t.Errorf("Project(%v, %v): %v, %d", p, vars, q, e)
		}
	}
	order := []int{7, 6, 5, 4, 3, 2, 1, 0}
	p := polyhedron(8)
	want := polyhedron(8)
	for i := range api.MaxConds {
		p.Conds = append(p.Conds, least(i*i, 0, 0, 0, 0, 0, 0, -2*i, 1))
		want.Conds = append(want.Conds, least(i*i, 1, -2*i, 0, 0, 0, 0, 0, 0))
	}
	slices.Reverse(want.Conds)
	if q, e := Project(p, order); e != api.OK || !poly.Identical(q, want) {
		t.Errorf("reversed variables: %v, %d", q, e)
	}
}

// P6.2, P6.7
func TestEmbed(t *testing.T) {
	samples(600, func(random *rand.Rand, p api.Poly, _ []int) {
		n := p.Dim + random.Intn(api.MaxDim-p.Dim+1)
		vars := random.Perm(n)[:p.Dim]
		q, e := Embed(p, n, vars)
		if e != api.OK || q.Dim != n || !isCanonical(q) {
			t.Fatalf("Embed(%v, %d, %v): %v, %d", p, n, vars, q, e)
		}
		for range 5 {
			y := place(random, n)
			if has(q, y) != has(p, at(y, vars)) {
				t.Fatalf("Embed(%v, %d, %v): %v; %v", p, n, vars, q, y)
			}
		}
		c, _ := poly.Canon(p)
		if r, e := Project(q, vars); e != api.OK || !poly.Identical(r, c) {
			t.Fatalf("Project(Embed(%v, %d, %v)): %v, %d", p, n, vars, r, e)
		}
	})
	for _, c := range []struct {
		p, want api.Poly
		n       int
		vars    []int
	}{
		{polyhedron(1, least(2, -1), least(0, 1)), polyhedron(2, least(2, 0, -1), least(0, 0, 1)), 2, []int{1}},
		{polyhedron(2, equal(-5, 2, 2), least(1, 1, 0)), polyhedron(3, equal(-5, 2, 0, 2), least(1, 0, 0, 1)), 3, []int{2, 0}},
		{polyhedron(0), polyhedron(3), 3, nil},
		{polyhedron(0, equal(1)), polyhedron(1, least(-1, 0)), 1, nil},
		{polyhedron(0), polyhedron(0), 0, []int{}},
	} {
		if q, e := Embed(c.p, c.n, c.vars); !poly.Identical(q, c.want) || e != api.OK {
			t.Errorf("Embed(%v, %d, %v): %v, %d", c.p, c.n, c.vars, q, e)
		}
	}
}

// P6.3
func TestLift(t *testing.T) {
	counts := map[api.Errno]int{}
	samples(1500, func(random *rand.Rand, p api.Poly, vars []int) {
		x := place(random, len(vars))
		y, e := Lift(p, vars, x)
		fixed := polyhedron(p.Dim, p.Conds...)
		for i, v := range vars {
			c := equal(-x[i].Top, make([]int, p.Dim)...)
			c.Form.Coef[v] = x[i].Low
			fixed.Conds = append(fixed.Conds, c)
		}
		counts[e]++
		if is, _ := poly.Empty(fixed); is != (e == api.ErrNone) || is && y != nil {
			t.Fatalf("Lift(%v, %v, %v): %v, %d", p, vars, x, y, e)
		}
		if e == api.OK && (!has(p, y) || !slices.Equal(at(y, vars), at(x, interval(0, len(x))))) {
			t.Fatalf("Lift(%v, %v, %v): %v, %d", p, vars, x, y, e)
		}
	})
	if counts[api.OK] < 300 || counts[api.ErrNone] < 300 || len(counts) != 2 {
		t.Error(counts)
	}
}

// P6.3: within the limits that the chapter names, points are always found.
func TestSmallLift(t *testing.T) {
	random := rand.New(rand.NewSource(13))
	draw := func() int {
		return []int{random.Intn(2001) - 1000, 1000 - random.Intn(3), random.Intn(3) - 1000}[random.Intn(3)]
	}
	found := 0
	for range 3000 {
		p := polyhedron(1 + random.Intn(3))
		for range random.Intn(11) {
			c := least(max(draw(), draw()), []int{draw(), draw(), draw()}[:p.Dim]...)
			c.Eq = random.Intn(8) == 0
			p.Conds = append(p.Conds, c)
		}
		vars := random.Perm(p.Dim)[:random.Intn(p.Dim+1)]
		x := make([]api.Num, len(vars))
		for i := range x {
			x[i] = api.Num{Top: []int{97, -97, 89, -100, 1}[random.Intn(5)], Low: []int{7, 9, 1, 3}[random.Intn(4)]}
		}
		y, e := Lift(p, vars, x)
		if e == api.ErrNone {
			continue
		}
		found++
		if e != api.OK || !has(p, y) || len(x) > 0 && !slices.Equal(at(y, vars), x) {
			t.Fatalf("Lift(%v, %v, %v): %v, %d", p, vars, x, y, e)
		}
	}
	if found < 500 {
		t.Errorf("only %d points", found)
	}
}

// P6.3
func TestLiftExamples(t *testing.T) {
	line := polyhedron(2, equal(-3, 1, 1), least(0, 1, 0), least(-1, 0, 1))
	fine := polyhedron(2, equal(-1, most, most-1))
	for _, c := range []struct {
		p    api.Poly
		vars []int
		x    []api.Num
		want []api.Num
		e    api.Errno
	}{
		{line, []int{0}, point(1), point(1, 2), api.OK},
		{line, []int{0}, point(3), nil, api.ErrNone},
		{line, []int{1, 0}, point(2, 1), point(1, 2), api.OK},
		{line, []int{1, 0}, point(1, 1), nil, api.ErrNone},
		{polyhedron(0), nil, nil, nil, api.OK},
		{polyhedron(0, least(-1)), nil, nil, nil, api.ErrNone},
		{polyhedron(1, least(-1, 0)), []int{0}, point(1), nil, api.ErrNone},
		{fine, []int{1}, point(most), nil, api.ErrFull},
		{fine, []int{1}, []api.Num{{Top: 1, Low: most - 1}}, []api.Num{integer(0), {Top: 1, Low: most - 1}}, api.OK},
	} {
		if y, e := Lift(c.p, c.vars, c.x); !slices.Equal(y, c.want) || e != c.e {
			t.Errorf("Lift(%v, %v, %v): %v, %d", c.p, c.vars, c.x, y, e)
		}
	}
}

// P6.4
func TestFix(t *testing.T) {
	samples(1000, func(random *rand.Rand, p api.Poly, _ []int) {
		if p.Dim == 0 {
			return
		}
		v, a := random.Intn(p.Dim), place(random, 1)[0]
		q, e := Fix(p, v, a)
		if e != api.OK || q.Dim != p.Dim-1 || !isCanonical(q) {
			t.Fatalf("Fix(%v, %d, %v): %v, %d", p, v, a, q, e)
		}
		for range 5 {
			x := place(random, p.Dim-1)
			if has(q, x) != has(p, slices.Insert(slices.Clone(x), v, a)) {
				t.Fatalf("Fix(%v, %d, %v): %v; %v", p, v, a, q, x)
			}
		}
		c := equal(-a.Top, make([]int, p.Dim)...)
		c.Form.Coef[v] = a.Low
		want, _ := Project(polyhedron(p.Dim, append(slices.Clone(p.Conds), c)...), append(interval(0, v), interval(v+1, p.Dim)...))
		if !poly.Identical(q, want) {
			t.Fatalf("Fix(%v, %d, %v): %v, not %v", p, v, a, q, want)
		}
	})
	tangents, parabola := polyhedron(3), polyhedron(2)
	for i := range api.MaxConds {
		tangents.Conds = append(tangents.Conds, least(i*i, -2*i, 0, 1))
		parabola.Conds = append(parabola.Conds, least(i*i, -2*i, 1))
	}
	slices.Reverse(parabola.Conds)
	for _, c := range []struct {
		p    api.Poly
		v    int
		a    api.Num
		want api.Poly
		e    api.Errno
	}{
		{polyhedron(2, equal(-3, 1, 1), least(0, 1, 0)), 0, integer(1), polyhedron(1, equal(-2, 1)), api.OK},
		{polyhedron(2, equal(-3, 1, 1), least(0, 1, 0)), 0, integer(-1), polyhedron(1, least(-1, 0)), api.OK},
		{polyhedron(1, least(-1, 2)), 0, api.Num{Top: 1, Low: 2}, polyhedron(0), api.OK},
		{polyhedron(1, least(-1, 2)), 0, api.Num{Top: 1, Low: 3}, polyhedron(0, least(-1)), api.OK},
		{tangents, 1, integer(7), parabola, api.OK}, // MaxConds conditions stay
		{polyhedron(2, equal(0, most, most)), 0, integer(most), polyhedron(1, equal(most, 1)), api.OK},
		{polyhedron(2, least(0, most, most-1)), 0, integer(1), polyhedron(1, least(most, most-1)), api.OK},
		{polyhedron(2, least(0, most, most-1)), 0, integer(2), api.Poly{}, api.ErrFull},
	} {
		if q, e := Fix(c.p, c.v, c.a); !poly.Identical(q, c.want) || e != c.e {
			t.Errorf("Fix(%v, %d, %v): %v, %d", c.p, c.v, c.a, q, e)
		}
	}
}

// P6.5
func TestJoin(t *testing.T) {
	samples(500, func(random *rand.Rand, p api.Poly, _ []int) {
		q := sample(random, random.Intn(5), random.Intn(6))
		r, e := Join(p, q)
		if e != api.OK || r.Dim != p.Dim+q.Dim || !isCanonical(r) {
			t.Fatalf("Join(%v, %v): %v, %d", p, q, r, e)
		}
		for range 5 {
			x := place(random, r.Dim)
			if has(r, x) != (has(p, x[:p.Dim]) && has(q, x[p.Dim:])) {
				t.Fatalf("Join(%v, %v): %v; %v", p, q, r, x)
			}
		}
		c, _ := poly.Canon(p)
		d, _ := poly.Canon(q)
		first, _ := Project(r, interval(0, p.Dim))
		second, _ := Project(r, interval(p.Dim, r.Dim))
		if is, _ := poly.Empty(r); !is && (!poly.Identical(first, c) || !poly.Identical(second, d)) {
			t.Fatalf("Join(%v, %v): %v", p, q, r)
		}
	})
	tangents, doubled := polyhedron(2), polyhedron(2)
	for i := range api.MaxConds {
		tangents.Conds = append(tangents.Conds, least(i*i, -2*i, 1))
		doubled.Conds = append(doubled.Conds, least(i/2, 1, 0))
	}
	for _, c := range []struct {
		p, q api.Poly
		n    int // conditions
		e    api.Errno
	}{
		{polyhedron(0), polyhedron(0), 0, api.OK}, {polyhedron(8), polyhedron(0, least(-1)), 1, api.OK}, {polyhedron(4), polyhedron(4), 0, api.OK},
		{polyhedron(8), polyhedron(1), 0, api.ErrFull}, {polyhedron(5, least(-1, 0, 0, 0, 0, 0)), polyhedron(4), 0, api.ErrFull},
		{tangents, polyhedron(1), api.MaxConds, api.OK}, {tangents, polyhedron(1, least(0, 1)), 0, api.ErrFull}, {tangents, polyhedron(1, least(-1, 0)), 1, api.OK},
		{doubled, doubled, 2, api.OK}, // more than MaxConds conditions together
	} {
		if r, e := Join(c.p, c.q); len(r.Conds) != c.n || e != c.e || e == api.OK && r.Dim != c.p.Dim+c.q.Dim {
			t.Errorf("Join(%v, %v): %v, %d", c.p, c.q, r, e)
		}
	}
}

// P6.1 to P6.5: arguments that are not valid, in the order of the errors.
func TestRefuse(t *testing.T) {
	poly := func(name string, p api.Poly, e, want api.Errno) {
		t.Helper()
		if !reflect.DeepEqual(p, api.Poly{}) || e != want {
			t.Errorf("%s: %v, %d", name, p, e)
		}
	}
	for _, p := range bad() {
		q, e := Project(p, []int{9})
		poly("Project", q, e, api.ErrArg)
		q, e = Embed(p, -1, []int{0, 0})
		poly("Embed", q, e, api.ErrArg)
		q, e = Fix(p, 9, integer(1))
		poly("Fix", q, e, api.ErrArg)
		q, e = Join(p, polyhedron(8))
		poly("Join", q, e, api.ErrArg)
		q, e = Join(polyhedron(8), p)
		poly("Join", q, e, api.ErrArg)
		if y, e := Lift(p, []int{9}, nil); y != nil || e != api.ErrArg {
			t.Errorf("Lift(%v): %v, %d", p, y, e)
		}
	}
	p := polyhedron(2, least(-1, 0, 0))
	for _, a := range []api.Num{{}, {Top: 2, Low: 2}, {Top: most + 1, Low: 1}, {Top: 1, Low: -1}} {
		q, e := Fix(p, 9, a)
		poly("Fix", q, e, api.ErrArg)
		if y, e := Lift(p, []int{9}, []api.Num{a}); y != nil || e != api.ErrArg {
			t.Errorf("Lift of %v: %v, %d", a, y, e)
		}
	}
	if y, e := Lift(p, []int{0}, point(0, 0, 0, 0, 0, 0, 0, 0, 0)); y != nil || e != api.ErrArg {
		t.Errorf("Lift of nine numbers: %v, %d", y, e)
	}
	for _, vars := range [][]int{{2}, {-1}, {0, 0}, {1, 0, 1}, {0, 1, 2}, {math.MaxInt}, {math.MinInt}, make([]int, 1000)} {
		q, e := Project(p, vars)
		poly("Project", q, e, api.ErrRange)
		if y, e := Lift(p, vars, point(0, 0, 0, 0)); y != nil || e != api.ErrRange {
			t.Errorf("Lift to %v: %v, %d", vars, y, e)
		}
		q, e = Embed(p, 2, vars)
		poly("Embed", q, e, api.ErrRange)
		q, e = Fix(polyhedron(0), vars[0], integer(0))
		poly("Fix", q, e, api.ErrRange)
	}
	for _, x := range [][]api.Num{nil, point(1, 2), point(1, 2, 3, 4, 5, 6, 7, 8)} {
		if y, e := Lift(p, []int{1}, x); y != nil || e != api.ErrDim {
			t.Errorf("Lift of %v: %v, %d", x, y, e)
		}
	}
	for _, v := range []int{2, -1, math.MaxInt, math.MinInt} {
		q, e := Fix(p, v, integer(0))
		poly("Fix", q, e, api.ErrRange)
	}
	for _, c := range []struct {
		n    int
		vars []int
	}{{-1, nil}, {9, []int{0, 1}}, {math.MaxInt, []int{0, 1}}, {math.MinInt, []int{0, 1}}, {3, []int{0}}, {3, []int{0, 1, 2}}, {3, []int{3, 0}}, {3, []int{1, 1}}, {1, []int{0, 1}}, {0, nil}} {
		q, e := Embed(p, c.n, c.vars)
		poly("Embed", q, e, api.ErrRange)
	}
}

func copied(p api.Poly) api.Poly {
	out := polyhedron(p.Dim)
	for _, c := range p.Conds {
		out.Conds = append(out.Conds, api.Cond{Form: api.Form{Coef: slices.Clone(c.Form.Coef), Add: c.Form.Add}, Eq: c.Eq})
	}
	return out
}

func overwrite(p api.Poly) {
	for i, c := range p.Conds {
		c.Form.Coef = c.Form.Coef[:cap(c.Form.Coef)]
		for k := range c.Form.Coef {
			c.Form.Coef[k] = 78
		}
		p.Conds[i] = api.Cond{}
	}
}

// P6.1 to P6.5: results share no memory with arguments and other results, and
// arguments stay as they are.
func TestMemory(t *testing.T) {
	samples(300, func(random *rand.Rand, p api.Poly, vars []int) {
		old, oldVars := copied(p), slices.Clone(vars)
		x := place(random, len(vars))
		oldX := slices.Clone(x)
		all := func() []api.Poly {
			first, _ := Project(p, vars)
			second, _ := Embed(p, p.Dim+1, interval(0, p.Dim))
			third, _ := Fix(p, 0, integer(1))
			fourth, _ := Join(p, p)
			return []api.Poly{first, second, third, fourth}
		}
		l, again := all(), all()
		y, _ := Lift(p, vars, x)
		for i, q := range l {
			kept := copied(again[i])
			overwrite(q)
			if !poly.Identical(again[i], kept) {
				t.Fatal("results share memory")
			}
		}
		for i := range y {
			y[i] = api.Num{}
		}
		if !poly.Identical(p, old) || !slices.Equal(vars, oldVars) || !slices.Equal(x, oldX) {
			t.Fatalf("%v, %v, %v have become %v, %v, %v", old, oldVars, oldX, p, vars, x)
		}
	})
}
