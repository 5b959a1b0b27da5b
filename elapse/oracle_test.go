package elapse

import (
	"math/rand"
	"slices"

	"floodmark/api"
	"floodmark/gen"
	"floodmark/hull"
	"floodmark/num"
	"floodmark/poly"
	"floodmark/proj"
)

func least(add int, coef ...int) api.Cond {
	return api.Cond{Form: api.Form{Coef: coef, Add: add}}
}

func equal(add int, coef ...int) api.Cond {
	return api.Cond{Form: api.Form{Coef: coef, Add: add}, Eq: true}
}

func polyhedron(n int, conds ...api.Cond) api.Poly { return api.Poly{Dim: n, Conds: conds} }

// must returns a polyhedron that comes without an error.
func must(p api.Poly, e api.Errno) api.Poly {
	if e != api.OK {
		panic("oracle")
	}
	return p
}

// unit returns the form of variable v of n, times a factor.
func unit(n, v, factor int) []int {
	out := make([]int, n)
	out[v] = factor
	return out
}

// ways returns the times t r for rates r of the flow and times t, as the
// projection of the pairs of such a product and its time: with the time as
// another variable, the conditions on the products are linear. If limit is not
// nil, the times are at most that number.
func ways(flow api.Poly, limit *api.Num) api.Poly {
	n := flow.Dim
	pairs := polyhedron(n+1, least(0, unit(n+1, n, 1)...))
	for _, c := range flow.Conds {
		form := api.Form{Coef: append(slices.Clone(c.Form.Coef), c.Form.Add)}
		pairs.Conds = append(pairs.Conds, api.Cond{Form: form, Eq: c.Eq})
	}
	if limit != nil {
		pairs.Conds = append(pairs.Conds, least(limit.Top, unit(n+1, n, -limit.Low)...))
	}
	var products []int
	for v := range n {
		products = append(products, v)
	}
	return must(proj.Project(pairs, products))
}

// reversed returns the polyhedron of the opposite points.
func reversed(p api.Poly) api.Poly {
	out := polyhedron(p.Dim)
	for _, c := range p.Conds {
		f := api.Form{Coef: slices.Clone(c.Form.Coef), Add: c.Form.Add}
		for i := range f.Coef {
			f.Coef[i] *= -1
		}
		out.Conds = append(out.Conds, api.Cond{Form: f, Eq: c.Eq})
	}
	return out
}

// reached returns the points of inv that lie one of the ways from a common
// point of p and inv.
func reached(p, inv, ways api.Poly) api.Poly {
	start := must(poly.Meet(p, inv))
	return must(poly.Meet(must(hull.Sum(start, ways)), inv))
}

// along returns x + t r, or false if that is not valid.
func along(x []api.Num, t api.Num, r []api.Num) ([]api.Num, bool) {
	var out []api.Num
	for i := range x {
		way, e := num.Mul(t, r[i])
		y, e2 := num.Add(x[i], way)
		if e != api.OK || e2 != api.OK {
			return nil, false
		}
		out = append(out, y)
	}
	return out, true
}

func has(p api.Poly, x []api.Num) bool {
	is, e := poly.Has(p, x)
	return is && e == api.OK
}

// sample returns a random polyhedron with integers of at most size, among them
// many 0s.
func sample(random *rand.Rand, n, conds, size int) api.Poly {
	one := func() int { return (random.Intn(2*size+1) - size) * random.Intn(2) }
	p := polyhedron(n)
	for range conds {
		c := api.Cond{Form: api.Form{Coef: make([]int, n), Add: one()}, Eq: random.Intn(10) == 0}
		if random.Intn(2) == 0 {
			c.Form.Add = random.Intn(size + 1)
		}
		for i := range c.Form.Coef {
			c.Form.Coef[i] = one()
		}
		p.Conds = append(p.Conds, c)
	}
	return p
}

// bounds returns the conditions low <= x <= high for all variables.
func bounds(n, low, high int) []api.Cond {
	var out []api.Cond
	for v := range n {
		out = append(out, least(-low, unit(n, v, 1)...), least(high, unit(n, v, -1)...))
	}
	return out
}

// rates returns a random flow: a sample within bounds, or the polyhedron of a
// few points.
func rates(random *rand.Rand, n int) api.Poly {
	for random.Intn(2) == 0 {
		p := sample(random, n, random.Intn(4), 3)
		p.Conds = append(p.Conds, bounds(n, -random.Intn(3), random.Intn(3))...)
		if empty, _ := poly.Empty(p); !empty {
			return p
		}
	}
	g := api.Gens{Dim: n}
	for range 1 + random.Intn(4) {
		g.Points = append(g.Points, place(random, n, 3, 2))
	}
	return must(gen.Poly(g))
}

func number(random *rand.Rand, top, low int) api.Num {
	a, _ := num.Make((random.Intn(2*top+1)-top)*random.Intn(3)/2, 1+random.Intn(low))
	return a
}

func place(random *rand.Rand, n, top, low int) []api.Num {
	x := make([]api.Num, n)
	for i := range x {
		x[i] = number(random, top, low)
	}
	return x
}

// mean returns the mean of points of p, or false if it has none.
func mean(random *rand.Rand, p api.Poly) ([]api.Num, bool) {
	g, e := gen.Of(p)
	if e != api.OK || len(g.Points) == 0 {
		return nil, false
	}
	x := slices.Clone(g.Points[random.Intn(len(g.Points))])
	half := api.Num{Top: 1, Low: 2}
	for range random.Intn(3) {
		y := g.Points[random.Intn(len(g.Points))]
		for i := range x {
			sum, _ := num.Add(x[i], y[i])
			x[i], _ = num.Mul(sum, half)
		}
	}
	for _, d := range g.Rays {
		times := number(random, 2, 2)
		for i := range x {
			way, _ := num.Mul(api.Num{Top: max(times.Top, -times.Top), Low: times.Low}, api.Num{Top: d[i], Low: 1})
			x[i], _ = num.Add(x[i], way)
		}
	}
	return x, true
}
