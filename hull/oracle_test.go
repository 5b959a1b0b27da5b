package hull

import (
	"math/rand"

	"floodmark/api"
	"floodmark/gen"
	"floodmark/poly"
	"floodmark/rows"
	"floodmark/simplex"
	"floodmark/whole"
)

// lifted is a polyhedron in any number of variables, and its image: the values
// of the forms, divided by low. It shows by linear optimization what another
// polyhedron is, without its generators.
type lifted struct {
	n     int
	conds []simplex.Cond
	forms []rows.Row
	low   whole.Int
}

// wide returns the row in n variables with the coefficients of r from the given
// place on.
func wide(n, place int, r rows.Row) rows.Row {
	out := make(rows.Row, n+1)
	copy(out[place:], r[:len(r)-1])
	out[n] = r.Add()
	return out
}

func read(p api.Poly) []simplex.Cond {
	conds, valid := simplex.Of(p)
	if !valid {
		panic("oracle")
	}
	return conds
}

// pairs returns the pairs of a point of p and a point of q, with their sum.
func pairs(p, q api.Poly) lifted {
	n := 2 * p.Dim
	out := lifted{n: n, forms: sums(p.Dim, n), low: whole.Of(1)}
	for _, c := range read(p) {
		out.conds = append(out.conds, simplex.Cond{Row: wide(n, 0, c.Row), Eq: c.Eq})
	}
	for _, c := range read(q) {
		out.conds = append(out.conds, simplex.Cond{Row: wide(n, p.Dim, c.Row), Eq: c.Eq})
	}
	return out
}

// sums returns the forms of a sum of two points in n variables, of size
// variables.
func sums(n, size int) []rows.Row {
	var out []rows.Row
	for i := range n {
		out = append(out, rows.Unit(size+1, i).Plus(rows.Unit(size+1, n+i)))
	}
	return out
}

// means returns the pairs of a multiple of a point of p and a multiple of a
// point of q, with the sum 1 of both factors, and with their sum. Neither of
// them is empty. Where a factor is 0, the pairs contain directions, so that
// their sums are the least polyhedron that contains p and q.
func means(p, q api.Poly) lifted {
	n := 2*p.Dim + 1
	out := lifted{n: n, forms: sums(p.Dim, n), low: whole.Of(1)}
	first := rows.Unit(n+1, n-1) // the first factor
	second := first.Neg().Plus(rows.Unit(n+1, n))
	out.conds = []simplex.Cond{{Row: first}, {Row: second}}
	add := func(l []simplex.Cond, place int, factor rows.Row) {
		for _, c := range l {
			r := wide(n, place, c.Row)
			r[n] = whole.Int{}
			out.conds = append(out.conds, simplex.Cond{Row: r.Plus(factor.Times(c.Row.Add())), Eq: c.Eq})
		}
	}
	add(read(p), 0, first)
	add(read(q), p.Dim, second)
	return out
}

// mapped returns the points of p with their images.
func mapped(p api.Poly, m []Ratio) lifted {
	out := lifted{n: p.Dim, conds: read(p), low: whole.Of(1)}
	for _, q := range m {
		out.low = out.low.Times(whole.Of(q.Low))
	}
	for _, q := range m {
		out.forms = append(out.forms, rows.Of(q.Form).Times(out.low.Quo(whole.Of(q.Low))))
	}
	return out
}

// is reports whether p is the canonical form of the image.
func (l lifted) is(p api.Poly) bool {
	c, e := poly.Canon(p)
	if e != api.OK || !poly.Identical(p, c) || p.Dim != len(l.forms) {
		return false
	}
	t := simplex.New(l.n, l.conds)
	if _, is := t.Feasible(); !is {
		is, _ := poly.Empty(p)
		return is
	}
	for _, c := range read(p) { // all images are points of p
		r := l.pull(c.Row)
		if _, is := t.Below(r); is {
			return false
		}
		if _, is := t.Below(r.Neg()); is && c.Eq {
			return false
		}
	}
	g, e := gen.Of(p)
	return e == api.OK && len(g.Points) > 0 && l.contains(g)
}

// pull returns the form on images as a form on the points.
func (l lifted) pull(r rows.Row) rows.Row {
	out := rows.Unit(l.n+1, l.n).Times(r.Add().Times(l.low))
	for i, f := range l.forms {
		out = out.Plus(f.Times(r[i]))
	}
	return out
}

// contains reports whether all points and directions of the generators are
// images of points and directions.
func (l lifted) contains(g api.Gens) bool {
	for _, x := range g.Points {
		if !l.reaches(x, true) {
			return false
		}
	}
	for _, d := range g.Rays {
		if !l.reaches(integers(1, d), false) {
			return false
		}
	}
	for _, d := range g.Lines {
		if !l.reaches(integers(1, d), false) || !l.reaches(integers(-1, d), false) {
			return false
		}
	}
	return true
}

func integers(times int, d []int) []api.Num {
	x := make([]api.Num, len(d))
	for i, k := range d {
		x[i] = api.Num{Top: times * k, Low: 1}
	}
	return x
}

// reaches reports whether y is the image of a point, or else of a direction in
// which the polyhedron has no end.
func (l lifted) reaches(y []api.Num, point bool) bool {
	without := func(r rows.Row) rows.Row {
		out := append(rows.Row{}, r...)
		if !point {
			out[l.n] = whole.Int{}
		}
		return out
	}
	var conds []simplex.Cond
	for _, c := range l.conds {
		conds = append(conds, simplex.Cond{Row: without(c.Row), Eq: c.Eq})
	}
	for i, f := range l.forms {
		value := rows.Unit(l.n+1, l.n).Times(l.low.Times(whole.Of(-y[i].Top)))
		conds = append(conds, simplex.Cond{Row: without(f).Times(whole.Of(y[i].Low)).Plus(value), Eq: true})
	}
	_, is := simplex.New(l.n, conds).Feasible()
	return is
}

// sample returns a random polyhedron with small integers, among them many 0s
// and conditions that belong together, so that it may be empty, flat, or
// without an end.
func sample(random *rand.Rand, n, conds int) api.Poly {
	one := func() int { return (random.Intn(7) - 3) * random.Intn(2) }
	p := api.Poly{Dim: n}
	for range conds {
		c := api.Cond{Form: api.Form{Coef: make([]int, n), Add: one() + random.Intn(3)}, Eq: random.Intn(10) == 0}
		for i := range c.Form.Coef {
			c.Form.Coef[i] = one()
		}
		if len(p.Conds) > 0 && random.Intn(4) == 0 {
			d := p.Conds[random.Intn(len(p.Conds))]
			for i, x := range d.Form.Coef {
				c.Form.Coef[i] = -x
			}
			c.Form.Add = random.Intn(5) - d.Form.Add
		}
		p.Conds = append(p.Conds, c)
	}
	return p
}

// body returns a random polyhedron, most often with points: a small sample, or
// the polyhedron of a few generators.
func body(random *rand.Rand, n int) api.Poly {
	if random.Intn(2) == 0 {
		return sample(random, n, random.Intn(6))
	}
	g := api.Gens{Dim: n, Points: [][]api.Num{place(random, n)}}
	for range random.Intn(4) {
		g.Points = append(g.Points, place(random, n))
	}
	for range random.Intn(3) * random.Intn(2) {
		d := make([]int, n)
		for i := range d {
			d[i] = random.Intn(5) - 2
		}
		g.Rays = append(g.Rays, d)
		if !gen.Valid(g) {
			g.Rays = g.Rays[:len(g.Rays)-1]
		}
	}
	p, _ := gen.Poly(g)
	return p
}

func place(random *rand.Rand, n int) []api.Num {
	x := make([]api.Num, n)
	for i := range x {
		top := (random.Intn(9) - 4) * random.Intn(2)
		x[i] = api.Num{Top: top, Low: 1}
		if top%2 != 0 && random.Intn(2) == 0 {
			x[i].Low = 2
		}
	}
	return x
}

// someMap returns a random map from n to m variables.
func someMap(random *rand.Rand, n, m int) []Ratio {
	var out []Ratio
	for range m {
		q := Ratio{Form: api.Form{Coef: make([]int, n), Add: (random.Intn(9) - 4) * random.Intn(2)}, Low: 1 + random.Intn(6)*random.Intn(2)}
		for i := range q.Form.Coef {
			q.Form.Coef[i] = (random.Intn(7) - 3) * random.Intn(2)
		}
		out = append(out, q)
	}
	return out
}
