package elapse

import (
	"math"
	"math/rand"
	"reflect"
	"slices"
	"testing"

	"floodmark/api"
	"floodmark/gen"
	"floodmark/num"
	"floodmark/poly"
)

const most = api.MaxNum

func integer(n int) api.Num { return api.Num{Top: n, Low: 1} }

func point(l ...int) []api.Num {
	x := make([]api.Num, 0, len(l))
	for _, n := range l {
		x = append(x, integer(n))
	}
	return x
}

func none(n int) api.Poly { return polyhedron(n, least(-1, make([]int, n)...)) }

// single returns the polyhedron of one point of integers.
func single(l ...int) api.Poly {
	p := polyhedron(len(l))
	for v, x := range l {
		p.Conds = append(p.Conds, equal(-x, unit(len(l), v, 1)...))
	}
	return p
}

// bad returns polyhedra that are not valid.
func bad() []api.Poly {
	many := polyhedron(2)
	for i := range api.MaxConds + 1 {
		many.Conds = append(many.Conds, least(i, 0, 1))
	}
	return []api.Poly{
		many, polyhedron(-1), polyhedron(api.MaxDim + 1), polyhedron(math.MaxInt), polyhedron(math.MinInt), polyhedron(2, api.Cond{}),
		polyhedron(2, least(0, 1)), polyhedron(2, least(0, 1, 1, 1)), polyhedron(2, least(most+1, 1, 1)), polyhedron(2, equal(0, 1, -most-1)),
	}
}

// badPoints returns lists of numbers that are not valid points.
func badPoints() [][]api.Num {
	return [][]api.Num{{{}, {}}, {{Top: 2, Low: 2}}, {{Top: most + 1, Low: 1}, {Low: 1}}, {{Top: 1, Low: -1}}, point(1, 2, 3, 4, 5, 6, 7, 8, 9)}
}

func check(t *testing.T, name string, got api.Poly, e api.Errno, want api.Poly, wanted api.Errno) {
	t.Helper()
	if e != wanted || !poly.Identical(got, want) || e != api.OK && !reflect.DeepEqual(got, api.Poly{}) {
		t.Errorf("%s: %v, %d; not %v, %d", name, got, e, want, wanted)
	}
}

// isEmpty reports whether p is empty.
func isEmpty(p api.Poly) bool {
	is, e := poly.Empty(p)
	return is && e == api.OK
}

// cases calls a test with random polyhedra and flows in up to four variables.
func cases(times int, test func(random *rand.Rand, p, inv, flow api.Poly)) {
	random := rand.New(rand.NewSource(31))
	for range times {
		n := random.Intn(5)
		p, inv := sample(random, n, random.Intn(6), 3), sample(random, n, random.Intn(4), 3)
		if random.Intn(2) == 0 {
			p.Conds = append(p.Conds, bounds(n, -1, 2)[:n]...)
		}
		test(random, p, inv, rates(random, n))
	}
}

// P8.1
func TestElapse(t *testing.T) {
	empty := 0
	cases(1200, func(_ *rand.Rand, p, _, flow api.Poly) {
		q, e := Elapse(p, flow)
		if want := reached(p, polyhedron(p.Dim), ways(flow, nil)); e != api.OK || !poly.Identical(q, want) {
			t.Fatalf("Elapse(%v, %v): %v, %d; not %v", p, flow, q, e, want)
		}
		if isEmpty(q) {
			empty++
		}
	})
	if empty < 50 || empty > 600 {
		t.Errorf("%d empty results", empty)
	}
	for _, c := range []struct{ p, flow, want api.Poly }{
		{single(0, 0), polyhedron(2, least(-1, 1, 0), least(2, -1, 0), equal(-1, 0, 1)), polyhedron(2, least(0, -1, 2), least(0, 1, -1))},
		{polyhedron(0), polyhedron(0), polyhedron(0)},
		{none(0), polyhedron(0), none(0)},
		{none(2), single(1, 2), none(2)},
		{polyhedron(1, least(-1, 1), least(0, -1)), single(1), none(1)},
		{single(3, 4), single(0, 0), single(3, 4)},
		{polyhedron(2, equal(0, 0, 1)), single(5, 0), polyhedron(2, equal(0, 0, 1))},
		{polyhedron(2, equal(0, 0, 1)), single(5, -3), polyhedron(2, least(0, 0, -1))},
		{single(1), polyhedron(1, least(1, 2), least(1, -3)), polyhedron(1)},
		{single(1), polyhedron(1, least(0, 1), least(1, -3)), polyhedron(1, least(-1, 1))},
	} {
		q, e := Elapse(c.p, c.flow)
		check(t, "Elapse", q, e, c.want, api.OK)
	}
}

// P8.2
func TestUpto(t *testing.T) {
	cases(1200, func(random *rand.Rand, p, _, flow api.Poly) {
		limit := number(random, 9, 4)
		limit.Top = max(limit.Top, -limit.Top)
		q, e := Upto(p, flow, limit)
		if want := reached(p, polyhedron(p.Dim), ways(flow, &limit)); e != api.OK || !poly.Identical(q, want) {
			t.Fatalf("Upto(%v, %v, %v): %v, %d; not %v", p, flow, limit, q, e, want)
		}
	})
	slow := polyhedron(1, equal(-1, most))
	for _, c := range []struct {
		p, flow api.Poly
		t       api.Num
		want    api.Poly
		e       api.Errno
	}{
		{single(0, 0), polyhedron(2, least(-1, 1, 0), least(2, -1, 0), equal(-1, 0, 1)), integer(3), polyhedron(2, least(0, -1, 2), least(3, 0, -1), least(0, 1, -1)), api.OK},
		{single(0), single(1), api.Num{Top: 5, Low: 3}, polyhedron(1, least(5, -3), least(0, 1)), api.OK},
		{polyhedron(0), polyhedron(0), integer(7), polyhedron(0), api.OK},
		{none(1), single(1), integer(7), none(1), api.OK},
		{polyhedron(1, least(3, 2), least(0, -4)), single(1), integer(0), polyhedron(1, least(0, -1), least(3, 2)), api.OK},
		{single(0), single(0), integer(most), single(0), api.OK},
		{single(0), single(1), integer(-1), api.Poly{}, api.ErrRange},
		{none(1), single(1), api.Num{Top: -1, Low: most}, api.Poly{}, api.ErrRange},
		{single(0), slow, integer(most), polyhedron(1, least(1, -1), least(0, 1)), api.OK},
		{single(0), single(most), integer(most), api.Poly{}, api.ErrFull},
		// Products that are not valid numbers, and do not appear in the result.
		{polyhedron(1, least(0, 1)), single(most), integer(most), polyhedron(1, least(0, 1)), api.OK},
		{polyhedron(1, least(0, -1)), slow, api.Num{Top: 1, Low: most - 1}, api.Poly{}, api.ErrFull},
		{polyhedron(1, least(0, 1)), slow, api.Num{Top: 1, Low: most - 1}, polyhedron(1, least(0, 1)), api.OK},
	} {
		q, e := Upto(c.p, c.flow, c.t)
		check(t, "Upto", q, e, c.want, c.e)
	}
}

// P8.3
func TestStay(t *testing.T) {
	empty := 0
	cases(1500, func(_ *rand.Rand, p, inv, flow api.Poly) {
		q, e := Stay(p, inv, flow)
		if want := reached(p, inv, ways(flow, nil)); e != api.OK || !poly.Identical(q, want) {
			t.Fatalf("Stay(%v, %v, %v): %v, %d; not %v", p, inv, flow, q, e, want)
		}
		if isEmpty(q) {
			empty++
		}
	})
	if empty < 50 || empty > 1000 {
		t.Errorf("%d empty results", empty)
	}
	tank := polyhedron(1, least(10, -1))
	for _, c := range []struct{ p, inv, flow, want api.Poly }{
		{single(0, 0), polyhedron(2, least(4, -1, 0)), polyhedron(2, least(-1, 1, 0), least(2, -1, 0), equal(-1, 0, 1)), polyhedron(2, least(4, -1, 0), least(0, -1, 2), least(0, 1, -1))},
		{single(5), tank, polyhedron(1, least(-1, 1), least(2, -1)), polyhedron(1, least(10, -1), least(-5, 1))},
		{single(11), tank, single(-1), none(1)}, // the first point is not in the invariant
		{single(10), tank, single(1), single(10)},
		{single(10), none(1), single(1), none(1)},
		{polyhedron(0), polyhedron(0), polyhedron(0), polyhedron(0)},
		{polyhedron(0), none(0), polyhedron(0), none(0)},
	} {
		q, e := Stay(c.p, c.inv, c.flow)
		check(t, "Stay", q, e, c.want, api.OK)
	}
}

// P8.4, P8.9
func TestPast(t *testing.T) {
	cases(1500, func(random *rand.Rand, p, inv, flow api.Poly) {
		q, e := Past(p, inv, flow)
		if want := reached(p, inv, reversed(ways(flow, nil))); e != api.OK || !poly.Identical(q, want) {
			t.Fatalf("Past(%v, %v, %v): %v, %d; not %v", p, inv, flow, q, e, want)
		}
		for _, x := range [][]api.Num{place(random, p.Dim, 3, 2), place(random, p.Dim, 3, 2)} {
			start := polyhedron(p.Dim)
			for v, a := range x {
				start.Conds = append(start.Conds, equal(-a.Top, unit(p.Dim, v, a.Low)...))
			}
			common := must(poly.Meet(must(Stay(start, inv, flow)), p))
			if has(q, x) == isEmpty(common) {
				t.Fatalf("Past(%v, %v, %v): %v; %v leads to %v", p, inv, flow, q, x, common)
			}
		}
	})
	for _, c := range []struct{ p, inv, flow, want api.Poly }{
		{polyhedron(1, least(-9, 1)), polyhedron(1, least(10, -1)), polyhedron(1, least(-1, 1), least(2, -1)), polyhedron(1, least(10, -1))},
		{single(4, 2), polyhedron(2, least(4, -1, 0)), polyhedron(2, least(-1, 1, 0), least(2, -1, 0), equal(-1, 0, 1)), polyhedron(2, least(2, -1, 1), least(0, 1, -2))},
		{single(11), polyhedron(1, least(10, -1)), single(1), none(1)},
		{polyhedron(0), polyhedron(0), polyhedron(0), polyhedron(0)},
	} {
		q, e := Past(c.p, c.inv, c.flow)
		check(t, "Past", q, e, c.want, api.OK)
	}
}

// isWitness reports whether x, t and r show that y is reached.
func isWitness(p, inv, flow api.Poly, y, x []api.Num, t api.Num, r []api.Num) bool {
	end, is := along(x, t, r)
	return is && len(x) == p.Dim && t.Top >= 0 && has(p, x) && has(inv, x) && has(inv, y) && has(flow, r) && slices.Equal(end, y)
}

// P8.5, P8.7
func TestWitness(t *testing.T) {
	counts := map[api.Errno]int{}
	zero := 0
	cases(2500, func(random *rand.Rand, p, inv, flow api.Poly) {
		stay := must(Stay(p, inv, flow))
		l := [][]api.Num{place(random, p.Dim, 4, 2)}
		if y, is := mean(random, stay); is {
			l = append(l, y)
		}
		for _, y := range l {
			x, d, r, e := Witness(p, inv, flow, y)
			counts[e]++
			switch {
			case e == api.OK && isWitness(p, inv, flow, y, x, d, r) && has(stay, y):
				if d.Top == 0 {
					zero++
				}
			case e == api.ErrNone && x == nil && d == api.Num{} && r == nil && !has(stay, y):
			default:
				t.Fatalf("Witness(%v, %v, %v, %v): %v, %v, %v, %d", p, inv, flow, y, x, d, r, e)
			}
		}
	})
	if counts[api.OK] < 500 || counts[api.ErrNone] < 500 || zero < 50 || len(counts) != 2 {
		t.Errorf("%v, %d with the time 0", counts, zero)
	}
}

// P8.5
func TestWitnessExamples(t *testing.T) {
	start, inv, flow := single(0, 0), polyhedron(2, least(4, -1, 0)), polyhedron(2, least(-1, 1, 0), least(2, -1, 0), equal(-1, 0, 1))
	for _, c := range []struct {
		p, inv, flow api.Poly
		y, x         []api.Num
		t            api.Num
		r            []api.Num
		e            api.Errno
	}{
		{start, inv, flow, point(3, 2), point(0, 0), integer(2), []api.Num{{Top: 3, Low: 2}, integer(1)}, api.OK},
		{start, inv, flow, point(5, 3), nil, api.Num{}, nil, api.ErrNone},   // outside the invariant
		{start, inv, flow, point(-1, -1), nil, api.Num{}, nil, api.ErrNone}, // before
		{single(5, 5), inv, flow, point(5, 5), nil, api.Num{}, nil, api.ErrNone},
		{none(2), inv, flow, point(0, 0), nil, api.Num{}, nil, api.ErrNone},
		{start, none(2), flow, point(0, 0), nil, api.Num{}, nil, api.ErrNone},
		{single(1), polyhedron(1), single(2), point(1), point(1), integer(0), point(2), api.OK}, // rates even without a delay
		{polyhedron(0), polyhedron(0), polyhedron(0), nil, []api.Num{}, integer(0), []api.Num{}, api.OK},
		{single(0), polyhedron(1), polyhedron(1, equal(-1, most)), point(most), nil, api.Num{}, nil, api.ErrFull}, // the time is not valid
		{single(0), polyhedron(1), polyhedron(1, equal(-most, most-1)), point(1), point(0), api.Num{Top: most - 1, Low: most}, []api.Num{{Top: most, Low: most - 1}}, api.OK},
	} {
		x, d, r, e := Witness(c.p, c.inv, c.flow, c.y)
		if e != c.e || d != c.t || !slices.Equal(x, c.x) || !slices.Equal(r, c.r) {
			t.Errorf("Witness(%v, %v, %v, %v): %v, %v, %v, %d", c.p, c.inv, c.flow, c.y, x, d, r, e)
		}
	}
}

// P8.5: small polyhedra and numbers for which a witness is promised.
func TestWitnessNumbers(t *testing.T) {
	random := rand.New(rand.NewSource(32))
	found := 0
	for range 20000 {
		n := 1 + random.Intn(3)
		p, inv, flow := sample(random, n, random.Intn(11), 20), sample(random, n, random.Intn(4), 20), sample(random, n, random.Intn(5), 20)
		flow.Conds = append(flow.Conds, bounds(n, -random.Intn(21), random.Intn(21))...)
		y := make([]api.Num, n)
		for i := range y {
			y[i] = number(random, 100, 10)
		}
		x, d, r, e := Witness(p, inv, flow, y)
		if e == api.ErrNone || e == api.ErrKind {
			continue
		}
		found++
		if e != api.OK || !isWitness(p, inv, flow, y, x, d, r) {
			t.Fatalf("Witness(%v, %v, %v, %v): %v, %v, %v, %d", p, inv, flow, y, x, d, r, e)
		}
	}
	if found < 300 {
		t.Errorf("only %d witnesses", found)
	}
}

// P8.6
func TestLongest(t *testing.T) {
	random := rand.New(rand.NewSource(33))
	counts := map[bool]int{}
	for range 3000 {
		n := random.Intn(5)
		inv := sample(random, n, random.Intn(5), 3)
		x, is := mean(random, inv)
		if !is {
			continue
		}
		r := place(random, n, 3, 3)
		d, is, e := Longest(inv, x, r)
		counts[is]++
		at := func(d api.Num) bool {
			y, valid := along(x, d, r)
			return valid && has(inv, y)
		}
		later, _ := num.Add(d, api.Num{Top: 1, Low: 1000000})
		good := is && at(d) && !at(later) || !is && d == integer(0) && at(integer(1)) && at(integer(1000000))
		if e != api.OK || d.Top < 0 || !good {
			t.Fatalf("Longest(%v, %v, %v): %v, %t, %d", inv, x, r, d, is, e)
		}
	}
	if counts[true] < 500 || counts[false] < 500 {
		t.Errorf("%v", counts)
	}
	plane := polyhedron(2, equal(-3, 1, 1), least(0, 1, 0))
	for _, c := range []struct {
		inv  api.Poly
		x, r []api.Num
		t    api.Num
		is   bool
		e    api.Errno
	}{
		{polyhedron(1, least(10, -1)), point(4), []api.Num{{Top: 3, Low: 2}}, integer(4), true, api.OK},
		{polyhedron(1, least(10, -1)), point(10), point(1), integer(0), true, api.OK},
		{polyhedron(1, least(10, -1)), point(10), point(0), integer(0), false, api.OK},
		{polyhedron(1, least(10, -1)), point(10), point(-1), integer(0), false, api.OK},
		{polyhedron(1, least(10, -1)), point(11), point(-1), api.Num{}, false, api.ErrNone},
		{none(1), point(0), point(0), api.Num{}, false, api.ErrNone},
		{plane, point(1, 2), point(-1, 1), integer(1), true, api.OK},
		{plane, point(1, 2), point(1, -1), integer(0), false, api.OK},
		{plane, point(1, 2), point(1, 1), integer(0), true, api.OK},   // leaves the equation
		{plane, point(1, 2), point(-1, -1), integer(0), true, api.OK}, // on the other side
		{polyhedron(0), nil, nil, integer(0), false, api.OK},
		{none(0), nil, nil, api.Num{}, false, api.ErrNone},
		{polyhedron(1, least(0, -1)), point(-most), []api.Num{{Top: 1, Low: most}}, api.Num{}, false, api.ErrFull},
		{polyhedron(1, least(0, -1), least(most, -1)), point(-most), []api.Num{{Top: most, Low: most - 1}}, integer(most - 1), true, api.OK},
		{polyhedron(1, least(0, -most)), []api.Num{{Top: -1, Low: most}}, []api.Num{{Top: most, Low: 1}}, api.Num{}, false, api.ErrFull},
	} {
		if d, is, e := Longest(c.inv, c.x, c.r); d != c.t || is != c.is || e != c.e {
			t.Errorf("Longest(%v, %v, %v): %v, %t, %d", c.inv, c.x, c.r, d, is, e)
		}
	}
}

// P8.8
func TestLaws(t *testing.T) {
	cases(500, func(random *rand.Rand, p, inv, flow api.Poly) {
		same := func(name string, x, y api.Poly) {
			if !poly.Identical(x, y) {
				t.Fatalf("%s: %v, %v, %v: %v, %v", name, p, inv, flow, x, y)
			}
		}
		once := must(Elapse(p, flow))
		same("Elapse of Elapse", must(Elapse(once, flow)), once)
		s, d := number(random, 5, 3), number(random, 5, 3)
		s.Top, d.Top = max(s.Top, -s.Top), max(d.Top, -d.Top)
		sum, _ := num.Add(s, d)
		same("Upto of Upto", must(Upto(must(Upto(p, flow, s)), flow, d)), must(Upto(p, flow, sum)))
		same("Upto with 0", must(Upto(p, flow, integer(0))), must(poly.Canon(p)))
		stay, past := must(Stay(p, inv, flow)), must(Past(p, inv, flow))
		same("Stay of Stay", must(Stay(stay, inv, flow)), stay)
		same("Past of Past", must(Past(past, inv, flow)), past)
		same("Stay everywhere", must(Stay(p, polyhedron(p.Dim), flow)), once)
	})
}

// curve returns the polyhedron of the points of a curve in four variables for
// the integers from first to last: no points have more faces.
func curve(first, last int) api.Poly {
	g := api.Gens{Dim: 4}
	for i := first; i <= last; i++ {
		g.Points = append(g.Points, point(i, i*i, i*i*i, i*i*i*i))
	}
	return must(gen.Poly(g))
}

// corner returns two moderate polyhedra with few common points: those near a
// corner of a polyhedron with 47 conditions, which has as many corners as there
// can be.
func corner() (p, q api.Poly) {
	const n = 47
	at := func(i int) [4]int { return [4]int{i, i * i, i * i * i, i * i * i * i} }
	var sum [4]int
	for i := range n {
		for k, x := range at(i - n/2) {
			sum[k] += x
		}
	}
	near := least(1, 0, 0, 0, 0)
	p, q = polyhedron(4), polyhedron(4)
	for i := range n {
		c := least(n, 0, 0, 0, 0)
		for k, x := range at(i - n/2) {
			c.Form.Coef[k] = sum[k] - n*x
		}
		if i < 4 {
			near.Form.Add -= 1000000 * c.Form.Add
			for k, x := range c.Form.Coef {
				near.Form.Coef[k] -= 1000000 * x
			}
		}
		if i < 24 {
			p.Conds = append(p.Conds, c)
		} else {
			q.Conds = append(q.Conds, c)
		}
	}
	q.Conds = append(q.Conds, near)
	return p, q
}

// P8.1 to P8.4: what the chapter promises most.
func TestLimits(t *testing.T) {
	p, flow := curve(-8, -1), curve(2, 9)
	if q, e := Elapse(p, flow); e != api.OK || !poly.Identical(q, reached(p, polyhedron(4), ways(flow, nil))) {
		t.Errorf("Elapse: %v, %d", q, e)
	}
	limit := integer(2)
	small := curve(1, 5)
	if q, e := Upto(small, curve(-4, 0), limit); e != api.OK || !poly.Identical(q, reached(small, polyhedron(4), ways(curve(-4, 0), &limit))) {
		t.Errorf("Upto: %v, %d", q, e)
	}
	q, e := Elapse(curve(-12, -1), curve(1, 12))
	check(t, "Elapse with more than MaxConds conditions", q, e, api.Poly{}, api.ErrFull)
	q, e = Upto(curve(-12, -1), curve(1, 12), integer(1))
	check(t, "Upto with more than MaxConds conditions", q, e, api.Poly{}, api.ErrFull)
	first, second := corner()
	if g, e := gen.Of(polyhedron(4, append(slices.Clone(first.Conds), second.Conds...)...)); e != api.ErrFull {
		t.Errorf("too few rays on the way: %v, %d", g, e)
	}
	q, e = Stay(first, second, single(1, 0, 0, 0))
	check(t, "Stay", q, e, reached(first, second, ways(single(1, 0, 0, 0), nil)), api.OK)
	q, e = Past(first, second, single(1, 0, 0, 0))
	check(t, "Past", q, e, reached(first, second, ways(single(-1, 0, 0, 0), nil)), api.OK)
	// The sets on the way have more conditions than the result.
	q, e = Stay(curve(-12, -1), single(1, 1, 1, 1), single(1, 0, 0, 0))
	check(t, "Stay", q, e, none(4), api.OK)
	box := polyhedron(8, bounds(8, 0, 1)...)
	q, e = Stay(polyhedron(8, bounds(8, -3, 1)...), box, single(1, 0, 0, 0, 0, 0, 0, 0))
	check(t, "Stay in eight variables", q, e, must(poly.Canon(box)), api.OK)
}

// P8.3: what is reached without the invariant may have too many conditions,
// or numbers that are not valid.
func TestStayOnTheWay(t *testing.T) {
	p, flow, corner := curve(-12, -1), curve(1, 12), single(-1, 1, -1, 1)
	if _, e := Elapse(p, flow); e != api.ErrFull {
		t.Errorf("Elapse: %d", e)
	}
	q, e := Stay(p, corner, flow)
	check(t, "Stay", q, e, corner, api.OK)
	q, e = Past(p, corner, flow)
	check(t, "Past", q, e, corner, api.OK)
	steep := polyhedron(2, equal(-1, most, 0), equal(-1, 0, most-1)) // the line from there through the rate is not valid
	rate := polyhedron(2, equal(-1, most-3, 0), equal(-1, 0, most-5))
	if _, e := Elapse(steep, rate); e != api.ErrFull {
		t.Errorf("Elapse: %d", e)
	}
	inv := polyhedron(2, least(1, -most, 0), least(2, 0, -1))
	q, e = Stay(steep, inv, rate)
	check(t, "Stay", q, e, steep, api.OK)
}

// P8.1 to P8.6: arguments that are not valid, in the order of the errors.
func TestRefuse(t *testing.T) {
	p, other, wild := polyhedron(2), polyhedron(3), polyhedron(2, least(0, 1, 0), least(0, 0, 1))
	numbers := []api.Num{{}, {Top: 2, Low: 2}, {Top: most + 1, Low: 1}, {Top: 1, Low: -1}, {Top: 1, Low: most + 1}}
	try := func(want api.Errno, p, inv, flow api.Poly, d api.Num, y []api.Num) {
		t.Helper()
		q, e := Elapse(p, flow)
		if inv.Dim == p.Dim && poly.Valid(inv) && num.Valid(d) && d.Top >= 0 && len(y) == p.Dim {
			check(t, "Elapse", q, e, api.Poly{}, want)
		}
		if inv.Dim == p.Dim && poly.Valid(inv) && len(y) == p.Dim {
			q, e = Upto(p, flow, d)
			check(t, "Upto", q, e, api.Poly{}, want)
		}
		if !num.Valid(d) || d.Top < 0 {
			return
		}
		if len(y) == p.Dim {
			q, e = Stay(p, inv, flow)
			check(t, "Stay", q, e, api.Poly{}, want)
			q, e = Past(p, inv, flow)
			check(t, "Past", q, e, api.Poly{}, want)
		}
		if x, d, r, e := Witness(p, inv, flow, y); e != want || x != nil || d != (api.Num{}) || r != nil {
			t.Errorf("Witness(%v, %v, %v, %v): %v, %v, %v, %d", p, inv, flow, y, x, d, r, e)
		}
	}
	zero := integer(0)
	for _, q := range bad() {
		try(api.ErrArg, q, q, wild, zero, make([]api.Num, max(0, min(q.Dim, 2))))
		for _, l := range [][3]api.Poly{{q, other, wild}, {other, q, wild}, {wild, other, q}} {
			if x, d, r, e := Witness(l[0], l[1], l[2], nil); e != api.ErrArg || x != nil || d != (api.Num{}) || r != nil {
				t.Errorf("Witness(%v): %d", l, e)
			}
			s, e := Stay(l[0], l[1], l[2])
			check(t, "Stay", s, e, api.Poly{}, api.ErrArg)
			s, e = Past(l[0], l[1], l[2])
			check(t, "Past", s, e, api.Poly{}, api.ErrArg)
		}
		s, e := Elapse(q, wild)
		check(t, "Elapse", s, e, api.Poly{}, api.ErrArg)
		s, e = Elapse(other, q)
		check(t, "Elapse", s, e, api.Poly{}, api.ErrArg)
		s, e = Upto(q, wild, integer(-1))
		check(t, "Upto", s, e, api.Poly{}, api.ErrArg)
		s, e = Upto(other, q, integer(-1))
		check(t, "Upto", s, e, api.Poly{}, api.ErrArg)
		if d, is, e := Longest(q, nil, point(1)); e != api.ErrArg || is || d != (api.Num{}) {
			t.Errorf("Longest(%v): %v, %t, %d", q, d, is, e)
		}
	}
	for _, d := range numbers {
		try(api.ErrArg, other, other, wild, d, point(1, 2, 3))
	}
	for _, flow := range []api.Poly{wild, p, none(2), polyhedron(2, least(-1, 1, 0), least(0, -1, 0), least(0, 0, 1))} {
		try(api.ErrKind, p, p, flow, zero, point(1, 2))
		try(api.ErrKind, none(2), none(2), flow, integer(-1), point(1, 2))
		try(api.ErrDim, other, other, flow, integer(-1), point(1, 2, 3))
		try(api.ErrDim, p, other, flow, zero, point(1, 2))
		for _, y := range [][]api.Num{nil, point(1), point(1, 2, 3), point(1, 2, 3, 4, 5, 6, 7, 8)} {
			try(api.ErrDim, p, p, flow, zero, y)
		}
		for _, y := range badPoints() {
			if x, d, r, e := Witness(p, other, flow, y); e != api.ErrArg || x != nil || d != (api.Num{}) || r != nil {
				t.Errorf("Witness of %v: %v, %v, %v, %d", y, x, d, r, e)
			}
		}
	}
	for _, y := range badPoints() {
		for _, l := range [][2][]api.Num{{y, point(1, 2, 3)}, {point(1, 2, 3), y}} {
			if d, is, e := Longest(none(2), l[0], l[1]); e != api.ErrArg || is || d != (api.Num{}) {
				t.Errorf("Longest of %v: %v, %t, %d", l, d, is, e)
			}
		}
	}
	for _, l := range [][2][]api.Num{{nil, nil}, {point(1, 2), point(1)}, {point(1, 2, 3), point(1, 2)}, {point(1, 2), nil}} {
		if d, is, e := Longest(none(2), l[0], l[1]); e != api.ErrDim || is || d != (api.Num{}) {
			t.Errorf("Longest of %v: %v, %t, %d", l, d, is, e)
		}
	}
	q, e := Upto(p, single(0, 0), integer(-1))
	check(t, "Upto", q, e, api.Poly{}, api.ErrRange)
}

func copied(p api.Poly) api.Poly {
	out := polyhedron(p.Dim)
	for _, c := range p.Conds {
		out.Conds = append(out.Conds, api.Cond{Form: api.Form{Coef: slices.Clone(c.Form.Coef), Add: c.Form.Add}, Eq: c.Eq})
	}
	return out
}

func overwrite(p api.Poly) {
	for i, c := range p.Conds {
		c.Form.Coef = c.Form.Coef[:cap(c.Form.Coef)]
		for k := range c.Form.Coef {
			c.Form.Coef[k] = 78
		}
		p.Conds[i] = api.Cond{}
	}
}

// P8.1 to P8.6: results share no memory with arguments and other results, and
// arguments stay as they are.
func TestMemory(t *testing.T) {
	cases(200, func(random *rand.Rand, p, inv, flow api.Poly) {
		y, ok := mean(random, must(Stay(p, inv, flow)))
		if !ok {
			return
		}
		oldP, oldInv, oldFlow, oldY := copied(p), copied(inv), copied(flow), slices.Clone(y)
		all := func() []api.Poly {
			return []api.Poly{must(Elapse(p, flow)), must(Upto(p, flow, integer(2))), must(Stay(p, inv, flow)), must(Past(p, inv, flow))}
		}
		l, again := all(), all()
		for i, q := range l {
			kept := copied(again[i])
			overwrite(q)
			if !poly.Identical(again[i], kept) {
				t.Fatal("results share memory")
			}
		}
		x, _, r, _ := Witness(p, inv, flow, y)
		kept := slices.Clone(r)
		_ = append(x[:len(x):cap(x)], integer(1))
		for i := range x {
			x[i] = api.Num{}
		}
		if !slices.Equal(r, kept) {
			t.Fatal("parts of a result share memory")
		}
		for i := range r {
			r[i] = api.Num{}
		}
		if !poly.Identical(p, oldP) || !poly.Identical(inv, oldInv) || !poly.Identical(flow, oldFlow) || !slices.Equal(y, oldY) {
			t.Fatalf("%v, %v, %v, %v have become %v, %v, %v, %v", oldP, oldInv, oldFlow, oldY, p, inv, flow, y)
		}
	})
}
