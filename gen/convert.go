package gen

import (
	"slices"

	"floodmark/api"
	"floodmark/cone"
	"floodmark/frac"
	"floodmark/num"
	"floodmark/rows"
)

// coneOf returns the cone of valid generators: a ray for each point and each
// ray, in this order, and a line for each line.
func coneOf(g api.Gens) cone.Cone {
	direction := func(d []int) rows.Row { return rows.Of(api.Form{Coef: d}) }
	rays := slices.Concat(converted(g.Points, cone.Row), converted(g.Rays, direction))
	return cone.Cone{Rays: rays, Lines: converted(g.Lines, direction)}
}

// generators returns the generators of a canonical cone, sorted, or ErrFull if
// they are not valid. A list with a number beyond the limits becomes nil, which
// is not valid either.
func generators(n int, c cone.Cone) (api.Gens, api.Errno) {
	direction := func(r rows.Row) []int {
		d, _ := rows.Ints(r[:n])
		return d
	}
	point := func(r rows.Row) []api.Num {
		x, _ := frac.Nums(cone.Point(r))
		return x
	}
	var points, rays []rows.Row
	for _, r := range c.Rays {
		if r.Add().Sign() > 0 {
			points = append(points, r)
		} else {
			rays = append(rays, r)
		}
	}
	g := api.Gens{Dim: n, Points: converted(points, point), Rays: converted(rays, direction), Lines: converted(c.Lines, direction)}
	if !Valid(g) {
		return api.Gens{}, api.ErrFull
	}
	slices.SortFunc(g.Points, comparePoints)
	slices.SortFunc(g.Rays, slices.Compare[[]int])
	return g, api.OK
}

// converted returns the list of what convert makes of the elements.
func converted[S, T any](l []S, convert func(S) T) []T {
	var out []T
	for _, x := range l {
		out = append(out, convert(x))
	}
	return out
}

// comparePoints compares valid points lexicographically.
func comparePoints(x, y []api.Num) int {
	return slices.CompareFunc(x, y, func(a, b api.Num) int {
		order, _ := num.Cmp(a, b)
		return order
	})
}
