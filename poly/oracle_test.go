package poly

import (
	"math/rand"

	"floodmark/api"
)

// side is a condition for the oracle: the value of the integers (the
// coefficients, then Add) is 0, at least 0, or greater than 0. The oracle
// eliminates variables one by one (Fourier and Motzkin), which is another way
// than the program's; it is for few and small conditions.
type side struct {
	row  []int
	kind byte // '=', '>' or 's' for strictly greater
}

func gcd(a, b int) int {
	for b != 0 {
		a, b = b, a%b
	}
	return max(a, -a)
}

// mix returns a times x plus b times y, which is 0 at place v; a is positive,
// and so is b unless y is an equation.
func mix(x, y side, a, b int) side {
	out, divisor := make([]int, len(x.row)), 0
	for i := range out {
		out[i] = a*x.row[i] + b*y.row[i]
		divisor = gcd(divisor, out[i])
	}
	for i := range out {
		out[i] /= max(divisor, 1)
	}
	kind := x.kind
	if kind == '=' || y.kind == 's' {
		kind = y.kind
	}
	return side{out, kind}
}

// eliminate returns conditions without variable v.
func eliminate(l []side, v int) []side {
	var out, above, below []side
	for at, x := range l {
		if x.kind == '=' && x.row[v] != 0 {
			for i, y := range l {
				if i != at {
					a, b := x.row[v], -y.row[v]
					if a < 0 {
						a, b = -a, -b
					}
					out = append(out, mix(y, x, a, b))
					out[len(out)-1].kind = y.kind
				}
			}
			return unique(out)
		}
		switch {
		case x.row[v] > 0:
			above = append(above, x)
		case x.row[v] < 0:
			below = append(below, x)
		default:
			out = append(out, x)
		}
	}
	for _, x := range above {
		for _, y := range below {
			out = append(out, mix(x, y, -y.row[v], x.row[v]))
		}
	}
	return unique(out)
}

func unique(l []side) []side {
	var out []side
	for _, x := range l {
		known := false
		for _, y := range out {
			same := x.kind == y.kind
			for i := range x.row {
				same = same && x.row[i] == y.row[i]
			}
			known = known || same
		}
		if !known {
			out = append(out, x)
		}
	}
	return out
}

// solvable reports whether a point in n variables satisfies all conditions.
func solvable(n int, l []side) bool {
	for v := range n {
		l = eliminate(l, v)
	}
	for _, x := range l {
		c := x.row[n]
		if c < 0 || x.kind == '=' && c != 0 || x.kind == 's' && c == 0 {
			return false
		}
	}
	return true
}

func sides(l []api.Cond) []side {
	var out []side
	for _, c := range l {
		kind := byte('>')
		if c.Eq {
			kind = '='
		}
		out = append(out, side{append(append([]int{}, c.Form.Coef...), c.Form.Add), kind})
	}
	return out
}

// strictly returns the condition that sign times the form is greater than 0.
func strictly(f api.Form, sign int) side {
	var row []int
	for _, x := range append(append([]int{}, f.Coef...), f.Add) {
		row = append(row, sign*x)
	}
	return side{row, 's'}
}

// can reports whether the form can be greater than 0 (sign 1) or less than 0
// (sign -1) under the conditions.
func can(n int, l []api.Cond, f api.Form, sign int) bool {
	return solvable(n, append(sides(l), strictly(f, sign)))
}

// follows reports whether c is satisfied by all points of p.
func follows(p api.Poly, c api.Cond) bool {
	return !can(p.Dim, p.Conds, c.Form, -1) && !(c.Eq && can(p.Dim, p.Conds, c.Form, 1))
}

// contains reports whether each point of q is one of p.
func contains(p, q api.Poly) bool {
	for _, c := range p.Conds {
		if !follows(q, c) {
			return false
		}
	}
	return true
}

// sample returns a random polyhedron with small integers, among them many 0s
// and conditions that belong together, so that it may be empty or flat or
// touch a condition only with an edge.
func sample(random *rand.Rand, n, conds int) api.Poly {
	one := func() int { return (random.Intn(7) - 3) * random.Intn(2) }
	p := api.Poly{Dim: n}
	for range conds {
		c := api.Cond{Form: api.Form{Coef: make([]int, n), Add: one() + random.Intn(2)}, Eq: random.Intn(10) == 0}
		for i := range c.Form.Coef {
			c.Form.Coef[i] = one()
		}
		if len(p.Conds) > 0 && random.Intn(5) == 0 {
			d := p.Conds[random.Intn(len(p.Conds))]
			factor := random.Intn(4) - 1
			for i, x := range d.Form.Coef {
				c.Form.Coef[i] = factor * x
			}
			c.Form.Add = factor*d.Form.Add + random.Intn(3)/2
		}
		p.Conds = append(p.Conds, c)
	}
	return p
}

// samples calls a test with many random polyhedra of the same dimension.
func samples(times int, test func(random *rand.Rand, p, q api.Poly)) {
	random := rand.New(rand.NewSource(6))
	for range times {
		n := random.Intn(4)
		test(random, sample(random, n, random.Intn(7)), sample(random, n, random.Intn(5)))
	}
}

// rewritten returns another polyhedron with the same points.
func rewritten(random *rand.Rand, p api.Poly) api.Poly {
	out := api.Poly{Dim: p.Dim}
	add := func(c, d api.Cond, a, b int, eq bool) {
		e := api.Cond{Form: api.Form{Coef: make([]int, p.Dim), Add: a*c.Form.Add + b*d.Form.Add}, Eq: eq}
		for i := range e.Form.Coef {
			e.Form.Coef[i] = a*c.Form.Coef[i] + b*d.Form.Coef[i]
		}
		out.Conds = append(out.Conds, e)
	}
	for _, i := range random.Perm(len(p.Conds)) {
		c := p.Conds[i]
		d := p.Conds[random.Intn(len(p.Conds))]
		a := 1 + random.Intn(3)
		switch {
		case c.Eq && random.Intn(2) == 0:
			add(c, c, a, 0, false)
			add(c, c, -a-1, 0, false)
		case c.Eq:
			add(c, c, -a, 0, true)
		default:
			add(c, c, a, 0, false)
		}
		if random.Intn(2) == 0 {
			add(c, d, a, 1, c.Eq && d.Eq)
		}
	}
	return out
}
