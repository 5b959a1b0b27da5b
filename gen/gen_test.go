package gen

import (
	"math"
	"math/big"
	"math/rand"
	"reflect"
	"slices"
	"testing"

	"floodmark/api"
	"floodmark/poly"
)

const most = api.MaxNum

func least(add int, coef ...int) api.Cond {
	return api.Cond{Form: api.Form{Coef: coef, Add: add}}
}

func equal(add int, coef ...int) api.Cond {
	return api.Cond{Form: api.Form{Coef: coef, Add: add}, Eq: true}
}

func polyhedron(n int, conds ...api.Cond) api.Poly { return api.Poly{Dim: n, Conds: conds} }

// point returns a point of integers.
func point(l ...int) []api.Num {
	x := make([]api.Num, 0, len(l))
	for _, n := range l {
		x = append(x, api.Num{Top: n, Low: 1})
	}
	return x
}

func points(n int, l ...[]api.Num) api.Gens { return api.Gens{Dim: n, Points: l} }

func rat(a api.Num) *big.Rat { return big.NewRat(int64(a.Top), int64(a.Low)) }

func integer(n int) *big.Rat { return big.NewRat(int64(n), 1) }

// has reports whether x is a point of p.
func has(p api.Poly, x []api.Num) bool {
	for _, c := range p.Conds {
		sum := integer(c.Form.Add)
		for i, a := range c.Form.Coef {
			sum.Add(sum, new(big.Rat).Mul(integer(a), rat(x[i])))
		}
		if sum.Sign() < 0 || c.Eq && sum.Sign() > 0 {
			return false
		}
	}
	return true
}

// areWeights reports whether w are weights of the generators for x.
func areWeights(g api.Gens, x, w []api.Num) bool {
	if len(w) != len(g.Points)+len(g.Rays)+len(g.Lines) {
		return false
	}
	rest, mean := make([]*big.Rat, g.Dim), integer(-1)
	for i := range rest {
		rest[i] = rat(x[i])
	}
	for k, a := range w {
		if a.Low < 1 || a.Top < 0 && k < len(g.Points)+len(g.Rays) {
			return false
		}
		for i := range rest {
			rest[i].Sub(rest[i], new(big.Rat).Mul(rat(a), at(g, k, i)))
		}
		if k < len(g.Points) {
			mean.Add(mean, rat(a))
		}
	}
	return mean.Sign() == 0 && !slices.ContainsFunc(rest, func(a *big.Rat) bool { return a.Sign() != 0 })
}

// at returns number i of generator k.
func at(g api.Gens, k, i int) *big.Rat {
	if k < len(g.Points) {
		return rat(g.Points[k][i])
	}
	return integer(slices.Concat(g.Rays, g.Lines)[k-len(g.Points)][i])
}

// badPolyhedra returns polyhedra that are not valid.
func badPolyhedra() []api.Poly {
	many := polyhedron(2)
	for i := range api.MaxConds + 1 {
		many.Conds = append(many.Conds, least(i, 0, 1))
	}
	return []api.Poly{
		polyhedron(-1), polyhedron(api.MaxDim + 1), polyhedron(2, api.Cond{}), polyhedron(2, least(0, 1)), polyhedron(2, least(0, 1, 1, 1)),
		polyhedron(2, least(most+1, 1, 1)), polyhedron(2, equal(0, 1, -most-1)), many,
	}
}

// bad returns generator systems that are not valid, most of them in two
// variables.
func bad() []api.Gens {
	zero := points(2, point(0, 0))
	with := func(rays, lines [][]int) api.Gens {
		return api.Gens{Dim: 2, Points: zero.Points, Rays: rays, Lines: lines}
	}
	out := []api.Gens{
		{Dim: -1}, {Dim: api.MaxDim + 1}, {Dim: math.MaxInt}, {Dim: math.MinInt}, points(api.MaxDim+1, make([]api.Num, api.MaxDim+1)),
		points(2, nil), points(2, point(1)), points(2, point(1, 2, 3)), points(0, point(0)), points(2, point(0, 0), point(most+1, 0)),
		points(2, []api.Num{{Top: 1, Low: 1}, {}}), points(2, []api.Num{{Top: 2, Low: 2}, {Top: 1, Low: 1}}), points(1, []api.Num{{Top: 1, Low: -1}}),
		{Dim: 2, Rays: [][]int{{1, 0}}}, {Dim: 2, Lines: [][]int{{1, 0}}}, {Dim: 0, Points: [][]api.Num{{}}, Rays: [][]int{{}}},
	}
	for _, d := range [][]int{nil, {0, 0}, {1}, {1, 1, 1}, {most + 1, 0}, {0, -most - 1}, {1, math.MinInt}} {
		out = append(out, with([][]int{{1, 0}, d}, nil), with(nil, [][]int{{1, 0}, d}))
	}
	full := large(api.MaxGens - 1)
	full.Rays, full.Lines = [][]int{{0, 1}}, [][]int{{1, 0}}
	return append(out, large(api.MaxGens+1), full)
}

// large returns points on a parabola, which are all needed.
func large(n int) api.Gens {
	g := api.Gens{Dim: 2}
	for i := range n {
		g.Points = append(g.Points, point(i, i*i))
	}
	return g
}

// moments returns n points on a curve in d variables, of which each few are
// the corners of a face: no points have more faces.
func moments(d, n int) api.Gens {
	g := api.Gens{Dim: d}
	for i := range n {
		x, t := make([]int, d), 1
		for k := range d {
			t *= i - n/2
			x[k] = t
		}
		g.Points = append(g.Points, point(x...))
	}
	return g
}

// cube returns 0 <= x <= 1 for all variables.
func cube(n int) api.Poly {
	p := polyhedron(n)
	for i := range n {
		low, high := make([]int, n), make([]int, n)
		low[i], high[i] = 1, -1
		p.Conds = append(p.Conds, least(0, low...), least(1, high...))
	}
	return p
}

// fine is a point whose numbers are not valid.
var fine = polyhedron(2, equal(-1, most, most-1), equal(-1, most-2, most-5))

// P5.1
func TestValid(t *testing.T) {
	full := large(api.MaxGens - 2)
	full.Rays, full.Lines = [][]int{{0, most}}, [][]int{{-most, 0}}
	for _, g := range []api.Gens{
		{}, {Dim: 8}, points(0, nil), points(0, []api.Num{}, nil), points(1, []api.Num{{Top: -most, Low: most - 1}}), large(api.MaxGens), full,
		points(8, point(1, 2, 3, 4, 5, 6, 7, 8)), points(2, point(1, 1), point(1, 1)), {Dim: 1, Points: [][]api.Num{point(0)}, Rays: [][]int{{1}, {-1}, {2}}},
	} {
		if !Valid(g) {
			t.Errorf("not valid: %v", g)
		}
	}
	for _, g := range bad() {
		if Valid(g) {
			t.Errorf("valid: %v", g)
		}
	}
}

// P5.2, P5.7, P5.9
func TestOf(t *testing.T) {
	kinds := map[[3]bool]int{}
	samples(1500, func(random *rand.Rand, p api.Poly, _ api.Gens) {
		g, e := Of(p)
		if want := wanted(p); e != api.OK || !Identical(g, want) {
			t.Fatalf("Of(%v): %v, %d; not %v", p, g, e, want)
		}
		if is, _ := poly.Bounded(p); is != (len(g.Rays) == 0 && len(g.Lines) == 0) {
			t.Fatalf("Of(%v): %v; bounded: %t", p, g, is)
		}
		c, _ := poly.Canon(p)
		if q, e := Poly(g); e != api.OK || !poly.Identical(q, c) {
			t.Fatalf("Poly(Of(%v)): %v, %d; not %v", p, q, e, c)
		}
		if h, e := Canon(g); e != api.OK || !Identical(g, h) {
			t.Fatalf("Canon(%v): %v, %d", g, h, e)
		}
		kinds[[3]bool{len(g.Points) > 1, len(g.Rays) > 0, len(g.Lines) > 0}]++
	})
	for i := range 8 {
		if k := [3]bool{i&1 > 0, i&2 > 0, i&4 > 0}; kinds[k] < 10 {
			t.Errorf("only %d samples of the kind %v", kinds[k], k)
		}
	}
}

// P5.2
func TestOfExamples(t *testing.T) {
	half := api.Num{Top: 1, Low: 2}
	for _, c := range []struct {
		p api.Poly
		g api.Gens
	}{
		{polyhedron(2, least(0, 1, 0), least(0, 0, 1), least(-2, 1, 1)), api.Gens{Dim: 2, Points: [][]api.Num{point(0, 2), point(2, 0)}, Rays: [][]int{{0, 1}, {1, 0}}}},
		{polyhedron(2, least(-2, 1, 1)), api.Gens{Dim: 2, Points: [][]api.Num{point(0, 2)}, Rays: [][]int{{0, 1}}, Lines: [][]int{{1, -1}}}},
		{polyhedron(0), points(0, nil)},
		{polyhedron(0, least(0), equal(0)), points(0, nil)},
		{polyhedron(0, equal(1)), points(0)},
		{polyhedron(0, least(-1)), points(0)},
		{polyhedron(3, least(-1, 0, 0, 0)), points(3)},
		{polyhedron(1, least(-1, 1), least(0, -1)), points(1)},
		{polyhedron(2, least(-1, 1, 0), least(0, -1, 0), least(0, 0, 1)), points(2)},
		{polyhedron(2), api.Gens{Dim: 2, Points: [][]api.Num{point(0, 0)}, Lines: [][]int{{1, 0}, {0, 1}}}},
		{polyhedron(2, equal(-3, 2, 4)), api.Gens{Dim: 2, Points: [][]api.Num{{{Top: 0, Low: 1}, {Top: 3, Low: 4}}}, Lines: [][]int{{2, -1}}}},
		{polyhedron(2, equal(-3, 0, 4)), api.Gens{Dim: 2, Points: [][]api.Num{{{Top: 0, Low: 1}, {Top: 3, Low: 4}}}, Lines: [][]int{{1, 0}}}},
		{polyhedron(2, equal(-1, 2, 0), equal(-1, 0, 3)), points(2, []api.Num{half, {Top: 1, Low: 3}})},
		{polyhedron(2, least(0, 2, -3), least(0, -2, 3), least(1, -1, 0)), api.Gens{Dim: 2, Points: [][]api.Num{{{Top: 1, Low: 1}, {Top: 2, Low: 3}}}, Rays: [][]int{{-3, -2}}}},
		{polyhedron(1, least(1, -2), least(1, 2)), points(1, []api.Num{{Top: -1, Low: 2}}, []api.Num{half})},
		{polyhedron(3, least(0, 1, 0, 0), least(0, 0, 1, 0), least(0, 1, 1, 0)), api.Gens{Dim: 3, Points: [][]api.Num{point(0, 0, 0)}, Rays: [][]int{{0, 1, 0}, {1, 0, 0}}, Lines: [][]int{{0, 0, 1}}}},
		{polyhedron(1, least(-most, 1)), api.Gens{Dim: 1, Points: [][]api.Num{point(most)}, Rays: [][]int{{1}}}},
	} {
		if g, e := Of(c.p); e != api.OK || !Identical(g, c.g) {
			t.Errorf("Of(%v): %v, %d", c.p, g, e)
		}
	}
}

// P5.2: generators that are not valid are refused, and no others of moderate
// polyhedra.
func TestOfFull(t *testing.T) {
	for _, p := range []api.Poly{
		fine, cube(8), // too long, too many
		polyhedron(3, equal(0, most, most-1, 1), equal(0, most-2, most-5, 1)),                                        // a line
		polyhedron(3, least(0, most, most-1, 1), least(0, most-2, most-5, 1), least(0, -1, 0, 0), least(0, 0, 1, 0)), // a ray
	} {
		if g, e := Of(p); e != api.ErrFull || !reflect.DeepEqual(g, api.Gens{}) {
			t.Errorf("Of(%v): %v, %d", p, g, e)
		}
	}
	for n, want := range map[int]int{8: 20, 17: 119, 21: 189, 22: 0, 24: 0} { // n (n - 3) / 2 corners
		g, e := Of(polar(moments(4, n)))
		if len(g.Points) != want || (e == api.ErrFull) != (want == 0) {
			t.Errorf("%d conditions: %d corners, %d", n, len(g.Points), e)
		}
	}
	for n, e := range map[int]api.Errno{100: api.OK, 101: api.ErrFull} { // two corners for each side
		if g, e2 := Of(prism(n)); e2 != e || e == api.OK && (len(g.Points) != api.MaxGens || len(g.Rays) != 0) {
			t.Errorf("%d sides: %d points, %d", n, len(g.Points), e2)
		}
	}
	if g, e := Of(cube(7)); len(g.Points) != 128 || e != api.OK {
		t.Errorf("a cube in 7 variables: %d corners, %d", len(g.Points), e)
	}
}

// polar returns a polyhedron with a condition for each point, and a corner for
// each face of the points, in whose middle it looks from.
func polar(g api.Gens) api.Poly {
	n := len(g.Points)
	sum := make([]int, g.Dim)
	for _, x := range g.Points {
		for i, a := range x {
			sum[i] += a.Top
		}
	}
	p := polyhedron(g.Dim)
	for _, x := range g.Points {
		c := least(n, make([]int, g.Dim)...)
		for i, a := range x {
			c.Form.Coef[i] = sum[i] - n*a.Top
		}
		p.Conds = append(p.Conds, c)
	}
	return p
}

// prism returns, for z from 0 to 1, the points between n - 1 tangents of a
// parabola and a line on the other side.
func prism(n int) api.Poly {
	p := polyhedron(3, least(0, 0, 0, 1), least(1, 0, 0, -1), least(n*n, 0, -1, 0))
	for i := 1; i < n; i++ {
		k := i - n/2
		p.Conds = append(p.Conds, least(k*k, -2*k, 1, 0))
	}
	return p
}

// P5.3, P5.4, P5.7, P5.8
func TestPolyAndCanon(t *testing.T) {
	samples(1500, func(random *rand.Rand, p api.Poly, g api.Gens) {
		q, e := Poly(g)
		c, e2 := poly.Canon(q)
		if e != api.OK || e2 != api.OK || !poly.Identical(q, c) {
			t.Fatalf("Poly(%v): %v, %d; not %v, %d", g, q, e, c, e2)
		}
		h, e := Canon(g)
		if want, _ := Of(q); e != api.OK || !Identical(h, want) {
			t.Fatalf("Canon(%v): %v, %d; not %v", g, h, e, want)
		}
		if len(q.Conds) <= 12 && !Identical(h, wanted(q)) {
			t.Fatalf("Canon(%v): %v; not %v", g, h, wanted(q))
		}
		if again, _ := Canon(h); !Identical(h, again) {
			t.Fatalf("Canon(%v): %v", h, again)
		}
		if other, _ := Canon(rewritten(random, g)); !Identical(h, other) {
			t.Fatalf("Canon of %v, written in another way: %v, not %v", g, other, h)
		}
		of, _ := Of(p)
		if same, _ := poly.Equal(p, q); same != Identical(of, h) {
			t.Fatalf("%v and %v: %v and %v", p, g, of, h)
		}
	})
}

// rewritten returns other generators of the same points.
func rewritten(random *rand.Rand, g api.Gens) api.Gens {
	out := api.Gens{Dim: g.Dim}
	for _, i := range random.Perm(len(g.Points)) {
		out.Points = append(out.Points, g.Points[i], g.Points[i])
	}
	for _, d := range g.Rays {
		out.Rays = append(out.Rays, multiple(d, 1+random.Intn(3)))
	}
	for _, d := range g.Lines {
		factor := 1 + random.Intn(3)
		if random.Intn(2) == 0 {
			out.Lines = append(out.Lines, multiple(d, -factor))
		} else {
			out.Rays = append(out.Rays, multiple(d, factor), multiple(d, -1))
		}
	}
	return out
}

func multiple(d []int, factor int) []int {
	var out []int
	for _, x := range d {
		out = append(out, factor*x)
	}
	return out
}

// P5.3, P5.4
func TestPolyExamples(t *testing.T) {
	for _, c := range []struct {
		g, canon api.Gens
		p        api.Poly
	}{
		{points(0, nil), points(0, nil), polyhedron(0)},
		{points(0, nil, nil), points(0, nil), polyhedron(0)},
		{points(0), points(0), polyhedron(0, least(-1))},
		{points(3), points(3), polyhedron(3, least(-1, 0, 0, 0))},
		{points(8), points(8), polyhedron(8, least(-1, 0, 0, 0, 0, 0, 0, 0, 0))},
		{points(2, point(0, 0), point(2, 0), point(0, 2), point(1, 1)), points(2, point(0, 0), point(0, 2), point(2, 0)), polyhedron(2, least(2, -1, -1), least(0, 0, 1), least(0, 1, 0))},
		{points(1, point(-most)), points(1, point(-most)), polyhedron(1, equal(most, 1))},
		{
			api.Gens{Dim: 2, Points: [][]api.Num{point(3, 5), point(4, 5)}, Lines: [][]int{{2, 4}}},
			api.Gens{Dim: 2, Points: [][]api.Num{point(0, -3), point(0, -1)}, Lines: [][]int{{1, 2}}},
			polyhedron(2, least(3, -2, 1), least(-1, 2, -1)),
		},
		{
			api.Gens{Dim: 2, Points: [][]api.Num{point(1, 1)}, Rays: [][]int{{3, 0}, {-2, 0}}},
			api.Gens{Dim: 2, Points: [][]api.Num{point(0, 1)}, Lines: [][]int{{1, 0}}},
			polyhedron(2, equal(-1, 0, 1)),
		},
		{
			api.Gens{Dim: 2, Points: [][]api.Num{point(0, 0), point(5, 5)}, Rays: [][]int{{4, 0}, {1, 1}, {0, 2}}},
			api.Gens{Dim: 2, Points: [][]api.Num{point(0, 0)}, Rays: [][]int{{0, 1}, {1, 0}}},
			polyhedron(2, least(0, 0, 1), least(0, 1, 0)),
		},
		{
			api.Gens{Dim: 1, Points: [][]api.Num{point(7)}, Rays: [][]int{{most}, {-1}}},
			api.Gens{Dim: 1, Points: [][]api.Num{point(0)}, Lines: [][]int{{1}}},
			polyhedron(1),
		},
	} {
		if p, e := Poly(c.g); e != api.OK || !poly.Identical(p, c.p) {
			t.Errorf("Poly(%v): %v, %d", c.g, p, e)
		}
		if g, e := Canon(c.g); e != api.OK || !Identical(g, c.canon) {
			t.Errorf("Canon(%v): %v, %d", c.g, g, e)
		}
	}
}

// P5.3, P5.4: results that are not valid are refused, and no others of at most
// 24 generators in at most 4 variables.
func TestPolyFull(t *testing.T) {
	a, b := api.Num{Top: 1, Low: most}, api.Num{Top: 1, Low: most - 1}
	line := points(2, []api.Num{a, b}, []api.Num{b, a})
	steep := points(2, []api.Num{a, b}, point(1, 1))
	long := api.Gens{Dim: 2, Points: [][]api.Num{{a, b}}, Lines: [][]int{{most, most - 1}}} // the point with x = 0 is too long
	for _, g := range []api.Gens{steep, long, large(api.MaxConds + 1)} {
		if p, e := Poly(g); e != api.ErrFull || !reflect.DeepEqual(p, api.Poly{}) {
			t.Errorf("Poly(%v): %v, %d", g, p, e)
		}
	}
	if c, e := Canon(long); e != api.ErrFull || !reflect.DeepEqual(c, api.Gens{}) {
		t.Errorf("Canon(%v): %v, %d", long, c, e)
	}
	for _, g := range []api.Gens{line, steep, large(api.MaxGens)} {
		if c, e := Canon(g); e != api.OK || len(c.Points) != len(g.Points) {
			t.Errorf("Canon(%v): %v, %d", g, c, e)
		}
	}
	if p, e := Poly(large(api.MaxConds)); e != api.OK || len(p.Conds) != api.MaxConds {
		t.Errorf("%d conditions, %d", len(p.Conds), e)
	}
	for n, want := range map[int]int{8: 20, 17: 119, 18: 0, 24: 0} { // n (n - 3) / 2 conditions
		p, e := Poly(moments(4, n))
		if len(p.Conds) != want || (e == api.ErrFull) != (want == 0) {
			t.Errorf("%d points: %d conditions, %d", n, len(p.Conds), e)
		}
	}
}

// P5.5
func TestHasAndWeights(t *testing.T) {
	counts := map[bool]int{}
	samples(2000, func(random *rand.Rand, _ api.Poly, g api.Gens) {
		x := place(random, g.Dim)
		p, _ := Poly(g)
		want := has(p, x)
		counts[want]++
		if is, e := Has(g, x); is != want || e != api.OK {
			t.Fatalf("Has(%v, %v): %t, %d", g, x, is, e)
		}
		w, e := Weights(g, x)
		if want && (e != api.OK || !areWeights(g, x, w)) || !want && (e != api.ErrNone || w != nil) {
			t.Fatalf("Weights(%v, %v): %v, %d", g, x, w, e)
		}
		for _, x := range g.Points {
			if w, e := Weights(g, x); e != api.OK || !areWeights(g, x, w) {
				t.Fatalf("Weights(%v, %v): %v, %d", g, x, w, e)
			}
		}
	})
	if counts[true] < 200 || counts[false] < 200 {
		t.Error(counts)
	}
}

// P5.5: within the limits that the chapter names, weights are always found.
func TestSmallWeights(t *testing.T) {
	random := rand.New(rand.NewSource(10))
	draw := func() int {
		return []int{random.Intn(201) - 100, 100 - random.Intn(3), random.Intn(3) - 100}[random.Intn(3)]
	}
	found := 0
	for range 3000 {
		g := api.Gens{Dim: 1 + random.Intn(3)}
		list := func() []int { return []int{draw(), draw(), draw()}[:g.Dim] }
		for range 1 + random.Intn(5) {
			g.Points = append(g.Points, point(list()...))
		}
		for range random.Intn(6) {
			if d := list(); leads(d) < 0 {
				continue
			} else if random.Intn(4) == 0 {
				g.Lines = append(g.Lines, d)
			} else {
				g.Rays = append(g.Rays, d)
			}
		}
		x := make([]api.Num, g.Dim)
		for i := range x {
			top, low := draw(), 1+random.Intn(10)
			x[i] = api.Num{Top: top / gcd(top, low), Low: low / gcd(top, low)}
		}
		w, e := Weights(g, x)
		if e == api.ErrNone {
			continue
		}
		found++
		if e != api.OK || !areWeights(g, x, w) {
			t.Fatalf("Weights(%v, %v): %v, %d", g, x, w, e)
		}
	}
	if found < 500 {
		t.Errorf("only %d points", found)
	}
}

// P5.5
func TestWeightsExamples(t *testing.T) {
	a, b := api.Num{Top: 1, Low: most}, api.Num{Top: 1, Low: most - 1}
	for _, c := range []struct {
		g    api.Gens
		x    []api.Num
		want bool
	}{
		{points(0, nil, nil), nil, true}, {points(0), nil, false}, {points(2), point(0, 0), false}, {points(8), point(0, 0, 0, 0, 0, 0, 0, 0), false},
		{points(2, point(0, 0), point(2, 0), point(0, 2), point(2, 2), point(1, 1)), point(1, 2), true},
		{points(2, point(0, 0), point(2, 0), point(0, 2), point(2, 2), point(1, 1)), point(3, 2), false},
		{api.Gens{Dim: 1, Points: [][]api.Num{point(1)}, Rays: [][]int{{2}}}, point(most), true},
		{api.Gens{Dim: 1, Points: [][]api.Num{point(1)}, Rays: [][]int{{2}}}, point(0), false},
		{api.Gens{Dim: 1, Points: [][]api.Num{point(1)}, Lines: [][]int{{-3}}}, point(0), true},
		{api.Gens{Dim: 2, Points: [][]api.Num{point(1, 1)}, Lines: [][]int{{-3, 1}}}, point(4, 0), true},
		{api.Gens{Dim: 2, Points: [][]api.Num{point(1, 1)}, Lines: [][]int{{-3, 1}}}, point(4, 1), false},
		{points(2, []api.Num{a, b}, []api.Num{b, a}), []api.Num{a, b}, true},
		{points(2, []api.Num{a, b}, []api.Num{b, a}), []api.Num{a, a}, false},
		{large(api.MaxGens), point(7, 50), true}, {large(api.MaxGens), point(7, 48), false},
	} {
		if is, e := Has(c.g, c.x); is != c.want || e != api.OK {
			t.Errorf("Has(%v, %v): %t, %d", c.g, c.x, is, e)
		}
		w, e := Weights(c.g, c.x)
		if c.want && (e != api.OK || !areWeights(c.g, c.x, w)) || !c.want && (e != api.ErrNone || w != nil) {
			t.Errorf("Weights(%v, %v): %v, %d", c.g, c.x, w, e)
		}
	}
	long := points(1, []api.Num{{Top: -1, Low: most}}, []api.Num{b})
	if is, e := Has(long, point(0)); !is || e != api.OK {
		t.Errorf("Has with long weights: %t, %d", is, e)
	}
	if w, e := Weights(long, point(0)); e == api.OK && !areWeights(long, point(0), w) || e != api.OK && (e != api.ErrFull || w != nil) {
		t.Errorf("long weights: %v, %d", w, e)
	}
}

// P5.6
func TestIdentical(t *testing.T) {
	g := api.Gens{Dim: 2, Points: [][]api.Num{point(1, 2), point(3, 4)}, Rays: [][]int{{1, 0}}, Lines: [][]int{{0, 1}}}
	if !Identical(g, copied(g)) {
		t.Error("equal values are not identical")
	}
	for _, change := range []func(h *api.Gens){
		func(h *api.Gens) { h.Dim = 3 },
		func(h *api.Gens) { h.Points[1][1].Top = 5 },
		func(h *api.Gens) { h.Points[1][1].Low = 5 },
		func(h *api.Gens) { h.Points[0] = h.Points[0][:1] },
		func(h *api.Gens) { h.Points[0], h.Points[1] = h.Points[1], h.Points[0] },
		func(h *api.Gens) { h.Points = h.Points[:1] },
		func(h *api.Gens) { h.Rays[0][1] = 1 },
		func(h *api.Gens) { h.Rays[0] = h.Rays[0][:1] },
		func(h *api.Gens) { h.Rays = nil },
		func(h *api.Gens) { h.Rays, h.Lines = h.Lines, h.Rays },
		func(h *api.Gens) { h.Lines[0][0] = -1 },
		func(h *api.Gens) { h.Lines = append(h.Lines, []int{1, 1}) },
	} {
		h := copied(g)
		change(&h)
		if Identical(g, h) || Identical(h, g) {
			t.Errorf("%v and %v are identical", g, h)
		}
	}
	empty := api.Gens{Points: [][]api.Num{{}}, Rays: [][]int{{}}, Lines: [][]int{nil}}
	if !Identical(empty, api.Gens{Points: [][]api.Num{nil}, Rays: [][]int{nil}, Lines: [][]int{{}}}) ||
		!Identical(api.Gens{}, api.Gens{Points: [][]api.Num{}, Rays: [][]int{}, Lines: [][]int{}}) {
		t.Error("an empty list is not nil")
	}
	for _, h := range bad() {
		if !Identical(h, h) {
			t.Errorf("%v and itself", h)
		}
	}
}

// P5.2 to P5.5: arguments that are not valid, before all other errors; then
// different numbers of variables.
func TestRefuse(t *testing.T) {
	for _, p := range badPolyhedra() {
		if g, e := Of(p); e != api.ErrArg || !reflect.DeepEqual(g, api.Gens{}) {
			t.Errorf("Of(%v): %v, %d", p, g, e)
		}
	}
	check := func(g api.Gens, x []api.Num, want api.Errno) {
		t.Helper()
		if is, e := Has(g, x); is || e != want {
			t.Errorf("Has(%v, %v): %t, %d", g, x, is, e)
		}
		if w, e := Weights(g, x); w != nil || e != want {
			t.Errorf("Weights(%v, %v): %v, %d", g, x, w, e)
		}
	}
	for _, g := range bad() {
		if p, e := Poly(g); e != api.ErrArg || !reflect.DeepEqual(p, api.Poly{}) {
			t.Errorf("Poly(%v): %v, %d", g, p, e)
		}
		if h, e := Canon(g); e != api.ErrArg || !reflect.DeepEqual(h, api.Gens{}) {
			t.Errorf("Canon(%v): %v, %d", g, h, e)
		}
		check(g, point(0, 0), api.ErrArg)
		check(g, point(0), api.ErrArg)
	}
	for _, g := range []api.Gens{points(2), points(2, point(0, 0)), large(5)} {
		for _, x := range [][]api.Num{{{}, {}}, {{Top: 2, Low: 2}}, point(0, most+1), point(0, 0, 0, 0, 0, 0, 0, 0, 0)} {
			check(g, x, api.ErrArg)
		}
		for _, x := range [][]api.Num{nil, point(0), point(0, 0, 0), point(0, 0, 0, 0, 0, 0, 0, 0)} {
			check(g, x, api.ErrDim)
		}
	}
}

func copied(g api.Gens) api.Gens {
	out := api.Gens{Dim: g.Dim}
	for _, x := range g.Points {
		out.Points = append(out.Points, slices.Clone(x))
	}
	for _, d := range g.Rays {
		out.Rays = append(out.Rays, slices.Clone(d))
	}
	for _, d := range g.Lines {
		out.Lines = append(out.Lines, slices.Clone(d))
	}
	return out
}

// overwrite changes all numbers, also behind the ends of the lists.
func overwrite(g api.Gens) {
	for _, x := range g.Points {
		x = x[:cap(x)]
		for i := range x {
			x[i] = api.Num{Top: 78}
		}
	}
	for _, d := range slices.Concat(g.Rays, g.Lines) {
		d = d[:cap(d)]
		for i := range d {
			d[i] = 78
		}
	}
}

// P5.2 to P5.5: results share no memory with arguments and other results, and
// arguments stay as they are.
func TestMemory(t *testing.T) {
	samples(300, func(random *rand.Rand, p api.Poly, g api.Gens) {
		old, x := copied(g), place(random, g.Dim)
		oldX := slices.Clone(x)
		h, _ := Canon(g)
		i, _ := Canon(h)
		oldH := copied(h)
		q, _ := Poly(g)
		Weights(g, x)
		overwrite(i)
		if !Identical(h, oldH) {
			t.Fatal("results share memory")
		}
		overwrite(h)
		if !Identical(g, old) || !slices.Equal(x, oldX) {
			t.Fatalf("%v, %v have become %v, %v", old, oldX, g, x)
		}
		of, _ := Of(q)
		again, _ := Of(q)
		overwrite(of)
		if c, _ := Canon(g); !Identical(again, c) {
			t.Fatalf("Of(%v): %v, not %v", q, again, c)
		}
	})
}
