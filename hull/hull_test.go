package hull

import (
	"math"
	"math/big"
	"math/rand"
	"reflect"
	"slices"
	"testing"

	"floodmark/api"
	"floodmark/gen"
	"floodmark/lp"
	"floodmark/poly"
	"floodmark/proj"
)

const most = api.MaxNum

func least(add int, coef ...int) api.Cond {
	return api.Cond{Form: api.Form{Coef: coef, Add: add}}
}

func equal(add int, coef ...int) api.Cond {
	return api.Cond{Form: api.Form{Coef: coef, Add: add}, Eq: true}
}

func polyhedron(n int, conds ...api.Cond) api.Poly { return api.Poly{Dim: n, Conds: conds} }

func none(n int) api.Poly { return polyhedron(n, least(-1, make([]int, n)...)) }

func ratio(low, add int, coef ...int) Ratio {
	return Ratio{Form: api.Form{Coef: coef, Add: add}, Low: low}
}

func point(l ...int) []api.Num {
	x := make([]api.Num, 0, len(l))
	for _, n := range l {
		x = append(x, api.Num{Top: n, Low: 1})
	}
	return x
}

// has reports whether x is a point of p.
func has(p api.Poly, x []api.Num) bool {
	is, e := poly.Has(p, x)
	return is && e == api.OK
}

// canon returns the canonical form of p.
func canon(p api.Poly) api.Poly {
	c, e := poly.Canon(p)
	if e != api.OK {
		panic("canon")
	}
	return c
}

// curve returns the polyhedron of the points of a curve in n variables for the
// integers from first to last: no points have more faces.
func curve(n, first, last int) api.Poly {
	g := api.Gens{Dim: n}
	for i := first; i <= last; i++ {
		x, t := make([]int, n), 1
		for k := range n {
			t *= i
			x[k] = t
		}
		g.Points = append(g.Points, point(x...))
	}
	p, e := gen.Poly(g)
	if e != api.OK {
		panic("curve")
	}
	return p
}

// box returns low <= x <= high for all variables.
func box(n, low, high int) api.Poly {
	p := polyhedron(n)
	for i := range n {
		up, down := make([]int, n), make([]int, n)
		up[i], down[i] = 1, -1
		p.Conds = append(p.Conds, least(-low, up...), least(high, down...))
	}
	return p
}

// steep and flat are polyhedra with corners that are not valid points, and fine
// consists of such a point.
var (
	steep = polyhedron(2, least(0, 1, 0), least(5, -1, 0), least(-1, 2-most, most), least(9, 0, -1))
	flat  = polyhedron(2, equal(-1, most, most-1), least(1, 0, -17), least(0, 0, 1))
	fine  = polyhedron(2, equal(-1, most, most-1), equal(-1, most-2, most-5))
)

// bad returns polyhedra that are not valid.
func bad() []api.Poly {
	many := polyhedron(2)
	for i := range api.MaxConds + 1 {
		many.Conds = append(many.Conds, least(i, 0, 1))
	}
	return []api.Poly{
		many, polyhedron(-1), polyhedron(api.MaxDim + 1), polyhedron(math.MaxInt), polyhedron(math.MinInt), polyhedron(2, api.Cond{}),
		polyhedron(2, least(0, 1)), polyhedron(2, least(0, 1, 1, 1)), polyhedron(2, least(most+1, 1, 1)), polyhedron(2, equal(0, 1, -most-1)),
	}
}

// badMaps returns maps from no number of variables, or not from 2.
func badMaps() [][]Ratio {
	one := ratio(1, 0, 1, 0)
	return [][]Ratio{
		{one, ratio(0, 0, 1, 0)}, {one, ratio(-1, 0, 1, 0)}, {ratio(most+1, 0, 1, 0)}, {ratio(math.MinInt, 0, 1, 0)}, {ratio(1, most+1, 1, 0)},
		{ratio(1, 0, 0, -most-1)}, {one, ratio(1, 0, 1)}, {one, ratio(1, 0)}, {ratio(1, 0, 1), one}, {one, {}},
		{ratio(1, 0, 1, 2, 3, 4, 5, 6, 7, 8, 9)}, slices.Repeat([]Ratio{one}, api.MaxDim+1),
	}
}

func check(t *testing.T, name string, got api.Poly, e api.Errno, want api.Poly, wanted api.Errno) {
	t.Helper()
	if e != wanted || !poly.Identical(got, want) || e != api.OK && !reflect.DeepEqual(got, api.Poly{}) {
		t.Errorf("%s: %v, %d; not %v, %d", name, got, e, want, wanted)
	}
}

// P7.1, P7.7
func TestHull(t *testing.T) {
	random := rand.New(rand.NewSource(21))
	var counts [5]int
	for range 1500 {
		n := random.Intn(5)
		p, q := body(random, n), body(random, n)
		h, e := Hull(p, q)
		first, _ := poly.Empty(p)
		second, _ := poly.Empty(q)
		switch {
		case first:
			check(t, "Hull with an empty polyhedron", h, e, canon(q), api.OK)
		case second:
			check(t, "Hull with an empty polyhedron", h, e, canon(p), api.OK)
		default:
			if e != api.OK || !means(p, q).is(h) {
				t.Fatalf("Hull(%v, %v): %v, %d", p, q, h, e)
			}
			counts[n]++
		}
		if is, _, _ := poly.Included(p, h); !is {
			t.Fatalf("Hull(%v, %v): %v", p, q, h)
		}
	}
	for n, times := range counts {
		if times < 100 {
			t.Errorf("only %d samples in %d variables", times, n)
		}
	}
}

// P7.1
func TestHullExamples(t *testing.T) {
	for _, c := range []struct{ p, q, want api.Poly }{
		{polyhedron(2, equal(0, 1, 0), equal(0, 0, 1)), polyhedron(2, equal(-2, 1, 0), equal(-4, 0, 1)), polyhedron(2, equal(0, 2, -1), least(4, 0, -1), least(0, 0, 1))},
		{polyhedron(0), polyhedron(0, least(-1)), polyhedron(0)},
		{none(0), none(0), none(0)},
		{none(3), polyhedron(3, least(0, 1, 0, 0), least(-1, -1, 0, 0)), none(3)},
		// A point and a line: only the hull is closed, that adds the line through the point.
		{polyhedron(2, equal(0, 1, 0), equal(0, 0, 1)), polyhedron(2, equal(-1, 0, 1)), polyhedron(2, least(1, 0, -1), least(0, 0, 1))},
		{polyhedron(1, least(0, 1)), polyhedron(1, least(0, -1)), polyhedron(1)},
		{polyhedron(1, least(-3, 1)), polyhedron(1, least(-2, 2)), polyhedron(1, least(-1, 1))},
		// An empty polyhedron that goes on without end adds nothing.
		{polyhedron(2, equal(0, 1, 0), equal(0, 0, 1)), polyhedron(2, least(-1, 1, 0), least(0, -1, 0), least(0, 0, 1)), polyhedron(2, equal(0, 1, 0), equal(0, 0, 1))},
	} {
		h, e := Hull(c.p, c.q)
		check(t, "Hull", h, e, c.want, api.OK)
		h, e = Hull(c.q, c.p)
		check(t, "Hull", h, e, c.want, api.OK)
	}
}

// P7.1, P7.2, P7.3: numbers on the way may exceed all limits.
func TestLargeNumbers(t *testing.T) {
	for _, p := range []api.Poly{steep, flat, fine} {
		if _, e := gen.Of(p); e != api.ErrFull {
			t.Errorf("Of(%v): %d", p, e)
		}
	}
	h, e := Hull(flat, flat)
	check(t, "Hull", h, e, flat, api.OK)
	h, e = Hull(steep, box(2, 0, 9))
	check(t, "Hull", h, e, canon(box(2, 0, 9)), api.OK)
	slope := polyhedron(2, equal(-1, most, most-1))
	h, e = Hull(slope, fine)
	check(t, "Hull of a line and a point of it", h, e, slope, api.OK)
	h, e = Hull(fine, polyhedron(2, equal(0, 1, 0), equal(0, 0, 1)))
	check(t, "Hull that is not valid", h, e, api.Poly{}, api.ErrFull)
	back := polyhedron(2, equal(1, most, most-1), equal(1, most-2, most-5))
	h, e = Sum(fine, back)
	check(t, "Sum", h, e, polyhedron(2, equal(0, 1, 0), equal(0, 0, 1)), api.OK)
	h, e = Sum(fine, fine)
	check(t, "Sum that is not valid", h, e, api.Poly{}, api.ErrFull)
	h, e = Sum(slope, fine)
	check(t, "Sum of a line and a point of it", h, e, polyhedron(2, equal(-2, most, most-1)), api.OK)
	h, e = Image(fine, []Ratio{ratio(1, 5, most, most-1), ratio(7, 0, most-2, most-5)})
	check(t, "Image", h, e, polyhedron(2, equal(-6, 1, 0), equal(-1, 0, 7)), api.OK)
	h, e = Image(fine, []Ratio{ratio(1, 0, 1, 0)})
	check(t, "Image that is not valid", h, e, api.Poly{}, api.ErrFull)
	h, e = Preimage(polyhedron(1, equal(-most, 1)), 1, []Ratio{ratio(most, 0, most)})
	check(t, "Preimage", h, e, polyhedron(1, equal(-most, 1)), api.OK)
	h, e = Preimage(polyhedron(2, least(1, most-1, most)), 2, []Ratio{ratio(most, 0, most, 0), ratio(most-1, 0, 0, most-1)})
	check(t, "Preimage", h, e, polyhedron(2, least(1, most-1, most)), api.OK)
	h, e = Preimage(polyhedron(1, least(1, most-1)), 1, []Ratio{ratio(most, 0, 3)})
	check(t, "Preimage that is not valid", h, e, api.Poly{}, api.ErrFull)
}

// P7.2
func TestSum(t *testing.T) {
	random := rand.New(rand.NewSource(22))
	empty := 0
	for range 1500 {
		n := random.Intn(5)
		p, q := body(random, n), body(random, n)
		s, e := Sum(p, q)
		if e != api.OK || !pairs(p, q).is(s) {
			t.Fatalf("Sum(%v, %v): %v, %d", p, q, s, e)
		}
		if is, _ := poly.Empty(s); is {
			empty++
		}
	}
	if empty < 50 || empty > 1000 {
		t.Errorf("%d empty sums", empty)
	}
	for _, c := range []struct{ p, q, want api.Poly }{
		{polyhedron(1, least(0, 1), least(1, -1)), polyhedron(1, least(-2, 1), least(5, -1)), polyhedron(1, least(6, -1), least(-2, 1))},
		{polyhedron(0), polyhedron(0), polyhedron(0)},
		{polyhedron(0), none(0), none(0)},
		{polyhedron(1), none(1), none(1)},
		{polyhedron(2, equal(0, 1, 0)), polyhedron(2, equal(0, 0, 1)), polyhedron(2)},
		{polyhedron(2, equal(0, 1, 1), least(0, 0, 1)), polyhedron(2, equal(-1, 1, 0), equal(-1, 0, 2)), polyhedron(2, equal(-3, 2, 2), least(-1, 0, 2))},
	} {
		s, e := Sum(c.p, c.q)
		check(t, "Sum", s, e, c.want, api.OK)
		s, e = Sum(c.q, c.p)
		check(t, "Sum", s, e, c.want, api.OK)
	}
}

// P7.3, P7.8
func TestImage(t *testing.T) {
	random := rand.New(rand.NewSource(23))
	for range 1500 {
		n, m := random.Intn(5), random.Intn(5)
		p, f := body(random, n), someMap(random, n, m)
		q, e := Image(p, f)
		if e != api.OK || !mapped(p, f).is(q) {
			t.Fatalf("Image(%v, %v): %v, %d", p, f, q, e)
		}
		if x, is, _, _ := lp.Find(p); is {
			if y, e := Apply(n, f, x); e != api.OK || !has(q, y) {
				t.Fatalf("Image(%v, %v): %v without %v", p, f, q, y)
			}
		}
	}
	for _, c := range []struct {
		p    api.Poly
		m    []Ratio
		want api.Poly
	}{
		{polyhedron(1, least(0, 1)), nil, polyhedron(0)},
		{none(1), nil, none(0)},
		{none(2), []Ratio{ratio(1, 0, 1, 0)}, none(1)},
		{polyhedron(0), []Ratio{ratio(4, 6)}, polyhedron(1, equal(-3, 2))},
		{polyhedron(0), nil, polyhedron(0)},
		{polyhedron(2, least(0, 1, 0)), []Ratio{ratio(3, 1, 0, 0)}, polyhedron(1, equal(-1, 3))}, // all directions become 0
		{polyhedron(1, least(-1, 1), least(3, -1)), slices.Repeat([]Ratio{ratio(2, 0, 1)}, 8), canon(polyhedron(8,
			equal(0, 1, -1, 0, 0, 0, 0, 0, 0), equal(0, 0, 1, -1, 0, 0, 0, 0, 0), equal(0, 0, 0, 1, -1, 0, 0, 0, 0), equal(0, 0, 0, 0, 1, -1, 0, 0, 0),
			equal(0, 0, 0, 0, 0, 1, -1, 0, 0), equal(0, 0, 0, 0, 0, 0, 1, -1, 0), equal(0, 0, 0, 0, 0, 0, 0, 1, -1),
			least(-1, 2, 0, 0, 0, 0, 0, 0, 0), least(3, 0, -2, 0, 0, 0, 0, 0, 0)))},
	} {
		q, e := Image(c.p, c.m)
		check(t, "Image", q, e, c.want, api.OK)
	}
}

// P7.4, P7.8
func TestPreimage(t *testing.T) {
	random := rand.New(rand.NewSource(24))
	for range 1000 {
		n, m := random.Intn(5), random.Intn(4)
		p, f := body(random, m), someMap(random, n, m)
		q, e := Preimage(p, n, f)
		graph := polyhedron(n + m) // the points with their images in p
		for _, c := range p.Conds {
			graph.Conds = append(graph.Conds, api.Cond{Form: api.Form{Coef: append(make([]int, n), c.Form.Coef...), Add: c.Form.Add}, Eq: c.Eq})
		}
		first := make([]int, n)
		for i := range first {
			first[i] = i
		}
		for i, r := range f {
			c := equal(r.Form.Add, append(slices.Clone(r.Form.Coef), make([]int, m)...)...)
			c.Form.Coef[n+i] = -r.Low
			graph.Conds = append(graph.Conds, c)
		}
		if want, e2 := proj.Project(graph, first); e != api.OK || e2 != api.OK || !poly.Identical(q, want) {
			t.Fatalf("Preimage(%v, %d, %v): %v, %d; not %v", p, n, f, q, e, want)
		}
		for range 5 {
			x := place(random, n)
			if y, e := Apply(n, f, x); e != api.OK || has(p, y) != has(q, x) {
				t.Fatalf("Preimage(%v, %d, %v): %v; %v has the image %v", p, n, f, q, x, y)
			}
		}
	}
	q, e := Preimage(polyhedron(0), 3, nil)
	check(t, "Preimage", q, e, polyhedron(3), api.OK)
	q, e = Preimage(none(0), 3, nil)
	check(t, "Preimage", q, e, none(3), api.OK)
	q, e = Preimage(polyhedron(1, least(-1, 2)), 0, []Ratio{ratio(3, 1)})
	check(t, "Preimage", q, e, none(0), api.OK)
	q, e = Preimage(polyhedron(1, least(-1, 2)), 0, []Ratio{ratio(3, 2)})
	check(t, "Preimage", q, e, polyhedron(0), api.OK)
	tangents := polyhedron(2)
	for i := range api.MaxConds {
		tangents.Conds = append(tangents.Conds, least(i*i, -2*i, 1))
	}
	if q, e := Preimage(tangents, 8, []Ratio{ratio(1, 0, 0, 0, 0, 0, 0, 0, 0, 1), ratio(1, 0, 1, 0, 0, 0, 0, 0, 0, 0)}); e != api.OK || len(q.Conds) != api.MaxConds {
		t.Errorf("Preimage in all variables: %d conditions, %d", len(q.Conds), e)
	}
}

// P7.5
func TestApply(t *testing.T) {
	random := rand.New(rand.NewSource(25))
	for range 500 {
		n, m := random.Intn(9), random.Intn(9)
		f, x := someMap(random, n, m), place(random, n)
		y, e := Apply(n, f, x)
		if e != api.OK || len(y) != m {
			t.Fatalf("Apply(%d, %v, %v): %v, %d", n, f, x, y, e)
		}
		for i, r := range f {
			sum := big.NewRat(int64(r.Form.Add), 1)
			for k, c := range r.Form.Coef {
				sum.Add(sum, big.NewRat(int64(c*x[k].Top), int64(x[k].Low)))
			}
			sum.Quo(sum, big.NewRat(int64(r.Low), 1))
			if sum.Num().Int64() != int64(y[i].Top) || sum.Denom().Int64() != int64(y[i].Low) {
				t.Fatalf("Apply(%d, %v, %v): %v", n, f, x, y)
			}
		}
	}
	tiny := []api.Num{{Top: 1, Low: most}, {Top: 1, Low: most - 1}}
	for _, c := range []struct {
		m    []Ratio
		x    []api.Num
		want []api.Num
		e    api.Errno
	}{
		{nil, point(1, 2), nil, api.OK},
		{[]Ratio{ratio(2, 1, 0, -1), ratio(1, 0, 1, 0)}, point(3, 2), []api.Num{{Top: -1, Low: 2}, {Top: 3, Low: 1}}, api.OK},
		{[]Ratio{ratio(most, most, most, most)}, point(most-2, 1), point(most), api.OK}, // the value of the form is not valid
		{[]Ratio{ratio(most, most, most, most)}, point(most, 1), nil, api.ErrFull},
		{[]Ratio{ratio(1, 0, most, most-1)}, tiny, point(2), api.OK},
		{[]Ratio{ratio(1, 0, 1, 0), ratio(1, 0, 0, 1)}, tiny, tiny, api.OK},
		{[]Ratio{ratio(1, 0, 1, 0), ratio(1, 0, 1, 1)}, tiny, nil, api.ErrFull},
		{[]Ratio{ratio(2, 0, 1, 0)}, tiny, nil, api.ErrFull},
	} {
		if y, e := Apply(2, c.m, c.x); e != c.e || !slices.Equal(y, c.want) {
			t.Errorf("Apply(%v, %v): %v, %d", c.m, c.x, y, e)
		}
	}
}

// P7.6, P7.7
func TestCover(t *testing.T) {
	random := rand.New(rand.NewSource(26))
	for range 400 {
		n := random.Intn(4)
		var l []api.Poly
		want := none(n)
		for range 1 + random.Intn(5) {
			l = append(l, body(random, n))
			want, _ = Hull(want, l[len(l)-1])
		}
		c, e := Cover(l)
		check(t, "Cover", c, e, want, api.OK)
		random.Shuffle(len(l), func(i, k int) { l[i], l[k] = l[k], l[i] })
		c, e = Cover(append(l, l...))
		check(t, "Cover of a longer list", c, e, want, api.OK)
	}
	c, e := Cover([]api.Poly{none(2), none(2), none(2)})
	check(t, "Cover of empty polyhedra", c, e, none(2), api.OK)
	for _, l := range [][]api.Poly{nil, {}} {
		c, e = Cover(l)
		check(t, "Cover of nothing", c, e, api.Poly{}, api.ErrNone)
	}
}

// P7.6: lists of any length, and hulls that are valid only when they are
// complete.
func TestCoverLimits(t *testing.T) {
	var long []api.Poly
	for i := range 3000 {
		long = append(long, box(3, -(i%50), i/100), none(3))
	}
	c, e := Cover(long)
	check(t, "Cover of a long list", c, e, canon(box(3, -49, 29)), api.OK)
	long = nil
	for i := range 5000 {
		long = append(long, polyhedron(1, equal(-i, 1))) // each point is a corner for a while
	}
	c, e = Cover(long)
	check(t, "Cover of many points", c, e, polyhedron(1, least(4999, -1), least(0, 1)), api.OK)
	c, e = Cover([]api.Poly{fine, polyhedron(2, equal(0, 1, 0), equal(0, 0, 1)), box(2, -9, 9)})
	check(t, "Cover", c, e, canon(box(2, -9, 9)), api.OK)
	// The canonical form of a single polyhedron does not need generators.
	c, e = Cover([]api.Poly{box(8, -3, 4)})
	check(t, "Cover of one box", c, e, canon(box(8, -3, 4)), api.OK)
	sphere := polyhedron(7)
	for i := -20; i < 20; i++ {
		sphere.Conds = append(sphere.Conds, least(7000000, 5*i, -7*i*i, i*i*i, 9000-i*i, i*i*i*i, 11*i-i*i*i, i*i*i*i*i))
	}
	if g, e := gen.Of(sphere); e != api.ErrFull {
		t.Errorf("Of: %v, %d", g, e)
	}
	c, e = Cover([]api.Poly{sphere})
	check(t, "Cover of one polyhedron", c, e, canon(sphere), api.OK)
	c, e = Cover([]api.Poly{none(7), sphere, none(7)})
	check(t, "Cover of one polyhedron and empty ones", c, e, canon(sphere), api.OK)
}

// P7.1, P7.2, P7.3, P7.6: what the chapter promises most: 24 generators in 4
// variables.
func TestLimits(t *testing.T) {
	first, second, all := curve(4, -9, -1), curve(4, 1, 8), curve(4, -8, 8)
	h, e := Hull(curve(4, -8, -1), curve(4, 0, 8))
	check(t, "Hull of 17 points", h, e, all, api.OK)
	if h, e := Hull(first, second); e != api.OK || len(h.Conds) != 17*14/2 || !means(first, second).is(h) {
		t.Errorf("Hull of 17 points: %d conditions, %d", len(h.Conds), e)
	}
	h, e = Hull(curve(4, -12, -1), curve(4, 1, 12))
	check(t, "Hull with more than MaxConds conditions", h, e, api.Poly{}, api.ErrFull)
	corners := polyhedron(4) // of the four axes at the distance 2
	for i := range 16 {
		c := least(2, 1, 1, 1, 1)
		for k := range c.Form.Coef {
			c.Form.Coef[k] -= i >> k & 1 * 2
		}
		corners.Conds = append(corners.Conds, c)
	}
	if h, e := Hull(corners, box(4, -1, 1)); e != api.OK || len(h.Conds) != 24 || !means(corners, box(4, -1, 1)).is(h) {
		t.Errorf("Hull of 24 points: %v, %d", h, e)
	}
	var l []api.Poly
	for i := range 24 {
		l = append(l, curve(3, i-12, i-12))
	}
	c, e := Cover(l)
	check(t, "Cover of 24 points", c, e, curve(3, -12, 11), api.OK)
	p, q := curve(4, -3, 0), curve(4, 2, 7)
	if s, e := Sum(p, q); e != api.OK || !pairs(p, q).is(s) {
		t.Errorf("Sum of 4 and 6 points: %v, %d", s, e)
	}
	m := []Ratio{ratio(3, 1, 1, 2, 0, 0), ratio(1, 0, 0, 1, 1, 1), ratio(2, 5, 7, 1, -1, 0), ratio(1, 0, 0, 0, 1, 0), ratio(9, 0, 1, 1, 1, 1)}
	if q, e := Image(all, m); e != api.OK || !mapped(all, m).is(q) {
		t.Errorf("Image of 17 points: %v, %d", q, e)
	}
}

// P7.1, P7.2: polyhedra that are not moderate; what is returned is right.
func TestLarge(t *testing.T) {
	h, e := Hull(box(8, 0, 3), box(8, 1, 2))
	check(t, "Hull of boxes", h, e, canon(box(8, 0, 3)), api.OK)
	h, e = Sum(box(8, 0, 3), box(8, -1, 2))
	check(t, "Sum of boxes", h, e, canon(box(8, -1, 5)), api.OK)
	random := rand.New(rand.NewSource(27))
	rough := func(n int) api.Poly {
		p := polyhedron(n)
		for range api.MaxConds {
			c := least(random.Intn(most), make([]int, n)...)
			for k := range c.Form.Coef {
				c.Form.Coef[k] = random.Intn(2*most+1) - most
			}
			p.Conds = append(p.Conds, c)
		}
		return p
	}
	for _, n := range []int{5, 7, 8} {
		p, q := rough(n), rough(n)
		h, e := Hull(p, q)
		check(t, "Hull of many corners", h, e, api.Poly{}, api.ErrFull)
		h, e = Sum(p, q)
		check(t, "Sum of many corners", h, e, api.Poly{}, api.ErrFull)
	}
	h, e = Image(rough(8), nil)
	check(t, "Image of too many corners", h, e, api.Poly{}, api.ErrFull)
	h, e = Preimage(none(1), 8, []Ratio{ratio(1, 0, 1, 1, 1, 1, 1, 1, 1, 1)})
	check(t, "Preimage", h, e, none(8), api.OK)
}

// P7.9
func TestLaws(t *testing.T) {
	random := rand.New(rand.NewSource(28))
	must := func(p api.Poly, e api.Errno) api.Poly {
		if e != api.OK {
			t.Fatal(e)
		}
		return p
	}
	for range 300 {
		n := random.Intn(4)
		p, q, r := body(random, n), body(random, n), body(random, n)
		same := func(name string, x, y api.Poly) {
			if !poly.Identical(x, y) {
				t.Fatalf("%s: %v, %v, %v: %v, %v", name, p, q, r, x, y)
			}
		}
		same("Hull is commutative", must(Hull(p, q)), must(Hull(q, p)))
		same("Sum is commutative", must(Sum(p, q)), must(Sum(q, p)))
		same("Hull is associative", must(Hull(must(Hull(p, q)), r)), must(Hull(p, must(Hull(q, r)))))
		same("Sum is associative", must(Sum(must(Sum(p, q)), r)), must(Sum(p, must(Sum(q, r)))))
		same("Sum is distributive", must(Sum(p, must(Hull(q, r)))), must(Hull(must(Sum(p, q)), must(Sum(p, r)))))
	}
}

// P7.1 to P7.6: arguments that are not valid, in the order of the errors.
func TestRefuse(t *testing.T) {
	zero := api.Poly{}
	other := polyhedron(3)
	for _, p := range bad() {
		for _, l := range [][2]api.Poly{{p, other}, {other, p}} {
			h, e := Hull(l[0], l[1])
			check(t, "Hull", h, e, zero, api.ErrArg)
			h, e = Sum(l[0], l[1])
			check(t, "Sum", h, e, zero, api.ErrArg)
			h, e = Cover([]api.Poly{polyhedron(1), l[0], polyhedron(2), l[1]})
			check(t, "Cover", h, e, zero, api.ErrArg)
		}
		h, e := Image(p, []Ratio{ratio(1, 0, 1, 2, 3)})
		check(t, "Image", h, e, zero, api.ErrArg)
		h, e = Preimage(p, 3, nil)
		check(t, "Preimage", h, e, zero, api.ErrArg)
	}
	for _, m := range badMaps() {
		h, e := Image(polyhedron(2), m)
		check(t, "Image", h, e, zero, api.ErrArg)
		h, e = Image(none(5), m)
		check(t, "Image", h, e, zero, api.ErrArg)
		h, e = Preimage(none(7), 2, m)
		check(t, "Preimage", h, e, zero, api.ErrArg)
		if y, e := Apply(2, m, point(1, 2, 3)); y != nil || e != api.ErrArg {
			t.Errorf("Apply of %v: %v, %d", m, y, e)
		}
	}
	for _, n := range []int{-1, api.MaxDim + 1, math.MinInt, math.MaxInt} {
		h, e := Preimage(polyhedron(0), n, nil)
		check(t, "Preimage", h, e, zero, api.ErrArg)
		if y, e := Apply(n, nil, nil); y != nil || e != api.ErrArg {
			t.Errorf("Apply in %d variables: %v, %d", n, y, e)
		}
	}
	one := []Ratio{ratio(1, 0, 1, 0)}
	for _, x := range [][]api.Num{{{}, {}}, {{Top: 2, Low: 2}}, {{Top: most + 1, Low: 1}, {Low: 1}}, point(1, 2, 3, 4, 5, 6, 7, 8, 9)} {
		if y, e := Apply(2, one, x); y != nil || e != api.ErrArg {
			t.Errorf("Apply to %v: %v, %d", x, y, e)
		}
	}
	for _, x := range [][]api.Num{nil, point(1), point(1, 2, 3), point(1, 2, 3, 4, 5, 6, 7, 8)} {
		if y, e := Apply(2, one, x); y != nil || e != api.ErrDim {
			t.Errorf("Apply to %v: %v, %d", x, y, e)
		}
	}
	h, e := Hull(polyhedron(2), other)
	check(t, "Hull", h, e, zero, api.ErrDim)
	h, e = Hull(none(2), none(0))
	check(t, "Hull", h, e, zero, api.ErrDim)
	h, e = Sum(none(4), other)
	check(t, "Sum", h, e, zero, api.ErrDim)
	h, e = Cover([]api.Poly{other, other, none(2)})
	check(t, "Cover", h, e, zero, api.ErrDim)
	for _, n := range []int{0, 1, 3, 8} {
		h, e = Image(polyhedron(n), one)
		check(t, "Image", h, e, zero, api.ErrDim)
	}
	for _, n := range []int{0, 2, 8} {
		h, e = Preimage(polyhedron(n), 2, one)
		check(t, "Preimage", h, e, zero, api.ErrDim)
	}
}

func copied(p api.Poly) api.Poly {
	out := polyhedron(p.Dim)
	for _, c := range p.Conds {
		out.Conds = append(out.Conds, api.Cond{Form: api.Form{Coef: slices.Clone(c.Form.Coef), Add: c.Form.Add}, Eq: c.Eq})
	}
	return out
}

func overwrite(p api.Poly) {
	for i, c := range p.Conds {
		c.Form.Coef = c.Form.Coef[:cap(c.Form.Coef)]
		for k := range c.Form.Coef {
			c.Form.Coef[k] = 78
		}
		p.Conds[i] = api.Cond{}
	}
}

// P7.1 to P7.6: results share no memory with arguments and other results, and
// arguments stay as they are.
func TestMemory(t *testing.T) {
	random := rand.New(rand.NewSource(29))
	for range 200 {
		n := random.Intn(4)
		p, q, m, x := body(random, n), body(random, n), someMap(random, n, n), place(random, n)
		oldP, oldQ, oldX := copied(p), copied(q), slices.Clone(x)
		var oldM []Ratio
		for _, r := range m {
			oldM = append(oldM, Ratio{Form: api.Form{Coef: slices.Clone(r.Form.Coef), Add: r.Form.Add}, Low: r.Low})
		}
		all := func() []api.Poly {
			first, _ := Hull(p, q)
			second, _ := Sum(p, q)
			third, _ := Image(p, m)
			fourth, _ := Preimage(p, n, m)
			fifth, _ := Cover([]api.Poly{p})
			sixth, _ := Cover([]api.Poly{none(n), none(n)})
			return []api.Poly{first, second, third, fourth, fifth, sixth}
		}
		l, again := all(), all()
		y, _ := Apply(n, m, x)
		for i, r := range l {
			kept := copied(again[i])
			overwrite(r)
			if !poly.Identical(again[i], kept) {
				t.Fatal("results share memory")
			}
		}
		for i := range y {
			y[i] = api.Num{}
		}
		same := func(r, s Ratio) bool { return reflect.DeepEqual(r, s) }
		if !poly.Identical(p, oldP) || !poly.Identical(q, oldQ) || !slices.Equal(x, oldX) || !slices.EqualFunc(m, oldM, same) {
			t.Fatalf("%v, %v, %v, %v have become %v, %v, %v, %v", oldP, oldQ, oldM, oldX, p, q, m, x)
		}
	}
}
