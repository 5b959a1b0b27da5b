package widen

import (
	"math/rand"
	"slices"

	"floodmark/api"
	"floodmark/hull"
	"floodmark/poly"
)

const most = api.MaxNum

func least(add int, coef ...int) api.Cond {
	return api.Cond{Form: api.Form{Coef: coef, Add: add}}
}

func equal(add int, coef ...int) api.Cond {
	return api.Cond{Form: api.Form{Coef: coef, Add: add}, Eq: true}
}

func polyhedron(n int, conds ...api.Cond) api.Poly { return api.Poly{Dim: n, Conds: conds} }

func none(n int) api.Poly { return polyhedron(n, least(-1, make([]int, n)...)) }

// must returns what comes without an error.
func must[T any](x T, e api.Errno) T {
	if e != api.OK {
		panic(e)
	}
	return x
}

func contains(p, q api.Poly) bool {
	is, _, e := poly.Included(q, p)
	return must(is, e)
}

func opposite(f api.Form) api.Form {
	out := api.Form{Coef: slices.Clone(f.Coef), Add: -f.Add}
	for i := range out.Coef {
		out.Coef[i] *= -1
	}
	return out
}

// pieces returns the parts of a polyhedron that has points.
func pieces(p api.Poly) []api.Cond {
	var equations, others []api.Cond
	for _, c := range must(poly.Canon(p)).Conds {
		if c.Eq {
			equations = append(equations, api.Cond{Form: c.Form}, api.Cond{Form: opposite(c.Form)})
		} else {
			others = append(others, c)
		}
	}
	return append(equations, others...)
}

// widened returns the widening of p and q by the definition: each part of q is
// put in the place of each part of p. It also returns the conditions of both
// kinds.
func widened(p, q api.Poly) (out api.Poly, kept, replaced []api.Cond) {
	n := p.Dim
	if must(poly.Empty(p)) {
		return must(poly.Canon(q)), nil, nil
	}
	old := pieces(p)
	for _, d := range old {
		if contains(polyhedron(n, d), q) {
			kept = append(kept, d)
		}
	}
	for _, c := range pieces(q) {
		for i := range old {
			swapped := slices.Clone(old)
			swapped[i] = c
			if must(poly.Equal(p, polyhedron(n, swapped...))) {
				replaced = append(replaced, c)
				break
			}
		}
	}
	return must(poly.Canon(polyhedron(n, slices.Concat(kept, replaced)...))), kept, replaced
}

// limited returns Upto of p and q by the definition.
func limited(p, q api.Poly, l []api.Cond) api.Poly {
	out, _, _ := widened(p, q)
	for _, c := range l {
		if contains(polyhedron(p.Dim, c), q) {
			out = must(poly.Meet(out, polyhedron(p.Dim, c)))
		}
	}
	return out
}

// sample returns a random polyhedron with small integers, which are 0 often.
func sample(random *rand.Rand, n, conds int) api.Poly {
	one := func() int { return (random.Intn(7) - 3) * random.Intn(2) }
	p := polyhedron(n)
	for range conds {
		c := api.Cond{Form: api.Form{Coef: make([]int, n), Add: random.Intn(6) - 1}, Eq: random.Intn(6) == 0}
		if c.Eq {
			c.Form.Add = one()
		}
		for i := range c.Form.Coef {
			c.Form.Coef[i] = one()
		}
		p.Conds = append(p.Conds, c)
	}
	return p
}

// lump returns a random polyhedron with points, also without equations in its
// conditions where it has a lower rank: the hull of a sample and a point.
func lump(random *rand.Rand, n int) api.Poly {
	x := polyhedron(n)
	for v := range n {
		f := api.Form{Coef: make([]int, n), Add: random.Intn(5) - 2}
		f.Coef[v] = 1 + random.Intn(2)
		x.Conds = append(x.Conds, api.Cond{Form: f, Eq: true})
	}
	if random.Intn(3) == 0 {
		return x
	}
	return must(hull.Hull(x, sample(random, n, n+random.Intn(4))))
}

// above returns a random polyhedron that contains p.
func above(random *rand.Rand, p api.Poly) api.Poly {
	if random.Intn(2) == 0 {
		return must(hull.Hull(p, lump(random, p.Dim)))
	}
	out := polyhedron(p.Dim)
	for _, c := range must(poly.Canon(p)).Conds {
		f := api.Form{Coef: slices.Clone(c.Form.Coef), Add: c.Form.Add}
		switch random.Intn(6) {
		case 0:
			continue
		case 1:
			f.Add += random.Intn(3)
			c.Eq = false
		case 2:
			c.Eq = false
		}
		out.Conds = append(out.Conds, api.Cond{Form: f, Eq: c.Eq})
	}
	if len(out.Conds) > 1 && random.Intn(3) == 0 { // one that only leans on the polyhedron
		i, j := random.Intn(len(out.Conds)), random.Intn(len(out.Conds))
		c, d := out.Conds[i], out.Conds[j]
		if !c.Eq && i != j {
			f := api.Form{Coef: make([]int, p.Dim), Add: c.Form.Add + d.Form.Add}
			for k := range f.Coef {
				f.Coef[k] = c.Form.Coef[k] + d.Form.Coef[k]
			}
			out.Conds[i] = api.Cond{Form: f}
		}
	}
	return out
}

// samples calls a test with many random polyhedra, of which the second one
// contains the first.
func samples(times int, test func(random *rand.Rand, p, q api.Poly)) {
	random := rand.New(rand.NewSource(31))
	for range times {
		n := random.Intn(4)
		p := lump(random, n)
		if random.Intn(20) == 0 {
			p = none(n)
		}
		test(random, p, above(random, p))
	}
}
