package cone

import (
	"slices"

	"floodmark/rows"
	"floodmark/simplex"
)

// most is the number of rays above which the method gives up. What the layers
// promise needs less: 24 conditions on 4 variables, and that on the height,
// have at most 275 rays, 275 points in 3 variables at most 546 conditions, and
// polyhedra with 25 generators in 4 variables at most 462 forms of their sum.
const most = 1000

// ray is a ray with the set of the conditions that have the value 0 for it,
// of those that count.
type ray struct {
	row   rows.Row
	zeros zeros
}

// double is the double description of a cone: by the conditions so far, and by
// lines and rays, of which none can be left out.
type double struct {
	n     int // variables
	done  int // conditions so far that did not follow from those before them
	lines []rows.Row
	rays  []ray
}

// generated returns the cone of the points in n variables for which the rows
// are at least 0, or 0 for equations. (An integer of a row beyond n does not
// count.) It returns false if there are too many rays on the way.
func generated(n int, conds []simplex.Cond) (Cone, bool) {
	d := double{n: n}
	for i := range n {
		d.lines = append(d.lines, rows.Unit(n, i))
	}
	work := ordered(conds)
	for c, is := work.next(); is; c, is = work.next() {
		if !d.add(c) {
			return Cone{}, false
		}
	}
	return d.cone(), true
}

// cone returns the canonical cone. The last integer of a line never leads: the
// lines of a polyhedron have the height 0, and the equations of one with points
// do not consist of an Add alone.
func (d *double) cone() Cone {
	system := rows.SystemOf(d.n-1, d.lines)
	out := Cone{Lines: system.Rows()}
	for _, r := range d.rays {
		out.Rays = append(out.Rays, system.Reduce(r.row))
	}
	return out
}

// ordered returns the conditions with the equations first. Until the first
// inequality there are only lines.
func ordered(conds []simplex.Cond) worklist[simplex.Cond] {
	var work worklist[simplex.Cond]
	for _, eq := range []bool{true, false} {
		for _, c := range conds {
			if c.Eq == eq {
				work.add(c)
			}
		}
	}
	return work
}

// add adds a condition, and reports whether there are not too many rays.
func (d *double) add(c simplex.Cond) bool {
	i := slices.IndexFunc(d.lines, func(l rows.Row) bool { return c.Row.Along(l).Sign() != 0 })
	if i >= 0 {
		d.bend(i, c)
	} else {
		d.cut(c.Row)
	}
	return len(d.rays) <= most
}

// bend adds a condition that is not 0 on line i. Everything else slides along
// the line to where the condition is 0; the earlier conditions, which are 0 on
// the line, do not change. Half of the line satisfies an inequality, and becomes
// a ray.
func (d *double) bend(i int, c simplex.Cond) {
	line := d.lines[i]
	if c.Row.Along(line).Sign() < 0 {
		line = line.Neg()
	}
	rise := c.Row.Along(line)
	slide := func(r rows.Row) rows.Row {
		return r.Times(rise).Plus(line.Times(c.Row.Along(r).Neg())).Primitive()
	}
	d.lines = slices.Delete(d.lines, i, i+1)
	for k, l := range d.lines {
		d.lines[k] = slide(l)
	}
	for k, r := range d.rays {
		d.rays[k].row = slide(r.row)
		d.rays[k].zeros.put(d.done)
	}
	if !c.Eq {
		d.rays = append(d.rays, ray{line, firstZeros(d.done)})
	}
	d.done++
}

// cut adds a condition that is 0 on all lines, with this row. It removes the
// rays below 0, and adds those at which the condition cuts the faces between
// two adjacent rays. Without rays below 0 the condition follows from the others
// and does not count. (There are no rays to cut for an equation.)
func (d *double) cut(row rows.Row) {
	var above, level, below []int
	var kept []ray
	for k, r := range d.rays {
		sign := row.Along(r.row).Sign()
		if sign < 0 {
			below = append(below, k)
			continue
		}
		if sign > 0 {
			above = append(above, k)
		} else {
			level = append(level, len(kept))
		}
		kept = append(kept, r)
	}
	if len(below) == 0 {
		return
	}
	for _, k := range level {
		kept[k].zeros.put(d.done)
	}
	for _, i := range above {
		for _, k := range below {
			if len(kept) <= most && d.adjacent(i, k) {
				kept = append(kept, d.between(row, i, k))
			}
		}
	}
	d.rays = kept
	d.done++
}

// adjacent reports whether the sums of rays i and k are a face of the cone: no
// other ray has the value 0 for all conditions for which both have it. These
// conditions must leave a face of two dimensions beside the lines, so that
// most pairs can be excluded by the number of them.
func (d *double) adjacent(i, k int) bool {
	x, y := d.rays[i].zeros, d.rays[k].zeros
	if x.shared(y) < d.n-len(d.lines)-2 {
		return false
	}
	for j, r := range d.rays {
		if j != i && j != k && r.zeros.covers(x, y) {
			return false
		}
	}
	return true
}

// between returns the sum of positive multiples of ray i, for which the row of
// a new condition is above 0, and of ray k, for which it is below, at which it
// is 0.
func (d *double) between(row rows.Row, i, k int) ray {
	x, y := d.rays[i], d.rays[k]
	sum := y.row.Times(row.Along(x.row)).Plus(x.row.Times(row.Along(y.row).Neg()))
	z := x.zeros.and(y.zeros)
	z.put(d.done)
	return ray{sum.Primitive(), z}
}
