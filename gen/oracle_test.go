package gen

import (
	"math/rand"
	"slices"

	"floodmark/api"
	"floodmark/lin"
)

// wanted returns the canonical generators of p as the chapter defines them, by
// trying all sets of conditions that a point or a direction could satisfy
// with 0. It is for few and small conditions.
func wanted(p api.Poly) api.Gens {
	n := p.Dim
	g := api.Gens{Dim: n, Lines: lines(p)}
	zero := leading(n, g.Lines) // what is 0 for reduced points and directions
	for set := range 1 << len(p.Conds) {
		equations := append([]api.Form{}, zero...)
		for i, c := range p.Conds {
			if set>>i&1 == 1 {
				equations = append(equations, c.Form)
			}
		}
		if x, is := only(n, equations); is && has(p, x) {
			g.Points = append(g.Points, x)
		}
		g.Rays = append(g.Rays, rays(p, equations)...)
	}
	if len(g.Points) == 0 { // each polyhedron with points has some without lines
		return api.Gens{Dim: n}
	}
	slices.SortFunc(g.Points, comparePoints)
	slices.SortFunc(g.Rays, slices.Compare[[]int])
	g.Points = slices.CompactFunc(g.Points, slices.Equal[[]api.Num])
	g.Rays = slices.CompactFunc(g.Rays, slices.Equal[[]int])
	return g
}

// unit returns variable v of n, plus add.
func unit(n, v, add int) api.Form {
	f := api.Form{Coef: make([]int, n), Add: add}
	f.Coef[v] = 1
	return f
}

// only returns the only solution of the equations, if there is exactly one.
func only(n int, equations []api.Form) ([]api.Num, bool) {
	rank, e := lin.Rank(n, equations)
	x, is, e2 := lin.Solve(n, equations)
	if e != api.OK || e2 != api.OK {
		panic("oracle")
	}
	return x, is && rank == n
}

// homogeneous returns the forms with Add 0.
func homogeneous(l []api.Form) []api.Form {
	var out []api.Form
	for _, f := range l {
		out = append(out, api.Form{Coef: f.Coef})
	}
	return out
}

// rays returns the primitive directions in which p goes on and which the
// equations leave as the only ones, but for their multiples.
func rays(p api.Poly, equations []api.Form) [][]int {
	var out [][]int
	for v := range p.Dim {
		x, is := only(p.Dim, append(homogeneous(equations), unit(p.Dim, v, -1)))
		for _, d := range [][]int{integers(x, 1), integers(x, -1)} {
			if is && goesOn(p, d) {
				out = append(out, d)
			}
		}
	}
	return out
}

// goesOn reports whether d is a direction in which p has no end.
func goesOn(p api.Poly, d []int) bool {
	for _, c := range p.Conds {
		rise := along(c.Form.Coef, d)
		if rise < 0 || c.Eq && rise > 0 {
			return false
		}
	}
	return true
}

func along(coef, d []int) int {
	sum := 0
	for i, x := range coef {
		sum += x * d[i]
	}
	return sum
}

// integers returns the primitive list of integers that is a positive multiple
// of sign times x.
func integers(x []api.Num, sign int) []int {
	low := 1
	for _, a := range x {
		low = low / gcd(low, a.Low) * a.Low
	}
	out, divisor := make([]int, len(x)), 0
	for i, a := range x {
		out[i] = sign * a.Top * (low / a.Low)
		divisor = gcd(divisor, out[i])
	}
	for i := range out {
		out[i] /= max(divisor, 1)
	}
	return out
}

func gcd(a, b int) int {
	for b != 0 {
		a, b = b, a%b
	}
	return max(a, -a)
}

// lines returns the directions in echelon form that all conditions of p leave.
func lines(p api.Poly) [][]int {
	var conds []api.Form
	for _, c := range p.Conds {
		conds = append(conds, api.Form{Coef: c.Form.Coef})
	}
	echelon, _, _ := lin.Echelon(p.Dim, conds)
	var free []int
	for v := range p.Dim {
		if !slices.ContainsFunc(echelon, func(f api.Form) bool { return leads(f.Coef) == v }) {
			free = append(free, v)
		}
	}
	var directions []api.Form
	for _, v := range free { // 1 for this one, 0 for the other free ones
		equations := append([]api.Form{}, echelon...)
		for _, w := range free {
			add := 0
			if v == w {
				add = -1
			}
			equations = append(equations, unit(p.Dim, w, add))
		}
		x, _ := only(p.Dim, equations)
		directions = append(directions, api.Form{Coef: integers(x, 1)})
	}
	echelon, _, _ = lin.Echelon(p.Dim, directions)
	var out [][]int
	for _, f := range echelon {
		out = append(out, f.Coef)
	}
	return out
}

// leads returns the leading variable.
func leads(d []int) int { return slices.IndexFunc(d, func(x int) bool { return x != 0 }) }

// leading returns the leading variables of the lines as forms.
func leading(n int, lines [][]int) []api.Form {
	var out []api.Form
	for _, d := range lines {
		out = append(out, unit(n, leads(d), 0))
	}
	return out
}

// sample returns a random polyhedron with small integers, among them many 0s
// and conditions that belong together, so that it may be empty or flat or
// touch a condition only with an edge.
func sample(random *rand.Rand, n, conds int) api.Poly {
	one := func() int { return (random.Intn(7) - 3) * random.Intn(2) }
	p := api.Poly{Dim: n}
	for range conds {
		c := api.Cond{Form: api.Form{Coef: make([]int, n), Add: one() + random.Intn(3)}, Eq: random.Intn(10) == 0}
		for i := range c.Form.Coef {
			c.Form.Coef[i] = one()
		}
		if len(p.Conds) > 0 && random.Intn(5) == 0 {
			d := p.Conds[random.Intn(len(p.Conds))]
			factor := random.Intn(4) - 1
			for i, x := range d.Form.Coef {
				c.Form.Coef[i] = factor * x
			}
			c.Form.Add = factor*d.Form.Add + random.Intn(3)/2
		}
		p.Conds = append(p.Conds, c)
	}
	return p
}

// number returns a random number, often 0.
func number(random *rand.Rand) api.Num {
	top, low := (random.Intn(9)-4)*random.Intn(2), 1+random.Intn(3)
	d := gcd(top, low)
	return api.Num{Top: top / d, Low: low / d}
}

func place(random *rand.Rand, n int) []api.Num {
	x := make([]api.Num, n)
	for i := range x {
		x[i] = number(random)
	}
	return x
}

// system returns random generators, among them points and directions that
// repeat or oppose others.
func system(random *rand.Rand, n, size int) api.Gens {
	g := api.Gens{Dim: n}
	for range random.Intn(size + 1) {
		g.Points = append(g.Points, place(random, n))
	}
	if len(g.Points) == 0 {
		return g
	}
	direction := func() []int {
		d := make([]int, n)
		for i := range d {
			d[i] = (random.Intn(9) - 4) * random.Intn(2)
		}
		if len(g.Rays) > 0 && random.Intn(4) == 0 {
			factor := random.Intn(4) - 2
			for i, x := range g.Rays[0] {
				d[i] = factor * x
			}
		}
		return d
	}
	for range random.Intn(size + 1) {
		if d := direction(); leads(d) >= 0 {
			g.Rays = append(g.Rays, d)
		}
	}
	for range random.Intn(3) * random.Intn(2) {
		if d := direction(); leads(d) >= 0 {
			g.Lines = append(g.Lines, d)
		}
	}
	return g
}

// samples calls a test with many random polyhedra and generators of the same
// dimension.
func samples(times int, test func(random *rand.Rand, p api.Poly, g api.Gens)) {
	random := rand.New(rand.NewSource(9))
	for range times {
		n := random.Intn(5)
		test(random, sample(random, n, random.Intn(8)), system(random, n, 4))
	}
}
