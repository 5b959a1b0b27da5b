package simplex

import (
	"floodmark/frac"
	"floodmark/rows"
	"floodmark/whole"
)

// Feasible moves to a corner that satisfies all conditions, and returns true;
// or, if there is none, it returns false and the multipliers of the conditions
// with the sum -1.
func (t *Table) Feasible() ([]frac.Frac, bool) {
	for i, c := range t.conds {
		if c.Eq && !t.fix(i) {
			return t.refutation(i), false
		}
	}
	for {
		i, is := t.violated()
		if !is {
			return nil, true
		}
		r := t.express(t.conds[i].Row)
		e, is := t.exit(r.Neg())
		if !is {
			return t.refutation(i), false
		}
		t.pivot(i, r, e.column)
	}
}

// fix makes equation i the head of a free column, and reports whether it is
// satisfied. Only the equations before it are heads.
func (t *Table) fix(i int) bool {
	r := t.express(t.conds[i].Row)
	for c := range t.heads {
		if t.free(c) && r[c].Sign() != 0 {
			t.pivot(i, r, c)
			return true
		}
	}
	return t.value(t.conds[i].Row).Sign() == 0
}

// violated returns the first inequality that the corner violates.
func (t *Table) violated() (int, bool) {
	for i, c := range t.conds {
		if !c.Eq && !t.dropped[i] && t.value(c.Row).Sign() < 0 {
			return i, true
		}
	}
	return 0, false
}

// refutation returns multipliers with the sum -1. Condition i is violated at
// the corner, and no edge leads to points with a greater value of it (for an
// equation: with another one).
func (t *Table) refutation(i int) []frac.Frac {
	r := t.express(t.conds[i].Row)
	value := r.Add()
	out := t.shares(r, value)
	out[i] = frac.New(t.low.Neg(), value)
	return out
}

// Minimize moves from a corner that satisfies all conditions to one at which r
// is least, and returns nil and true; or, if r has no lower bound, it returns
// a direction in which r falls without end, and false.
func (t *Table) Minimize(r rows.Row) ([]whole.Int, bool) {
	e, is := t.descend(r, false)
	if !is {
		return nil, true
	}
	return t.direction(e), false
}

// Below returns a point that satisfies all conditions and for which r is less
// than 0, and true; or, if there is none, it moves to a corner at which r is
// least, and returns false. It starts like Minimize.
func (t *Table) Below(r rows.Row) ([]frac.Frac, bool) {
	e, is := t.descend(r, true)
	if is {
		return t.beyond(r, e), true
	}
	if t.value(r).Sign() < 0 {
		return t.Point(), true
	}
	return nil, false
}

// edge leads away from the corner: along a column, or, if sign is -1, against
// it.
type edge struct{ column, sign int }

// descend moves from corner to corner as long as r falls, or, if early, only
// until it is less than 0. If it comes to an edge on which r falls without
// end, it returns that and true.
func (t *Table) descend(r rows.Row, early bool) (edge, bool) {
	for {
		expressed := t.express(r)
		if early && expressed.Add().Sign() < 0 {
			return edge{}, false
		}
		e, is := t.exit(expressed)
		if !is {
			return edge{}, false
		}
		i, is := t.block(e)
		if !is {
			return e, true
		}
		t.pivot(i, t.express(t.conds[i].Row), e.column)
	}
}

// exit returns the edge on which an expressed row falls and whose column has
// the least head. (The rule of the least index, here and for conditions,
// excludes cycles. Free columns may come first: once they have another head,
// they are never free again.)
func (t *Table) exit(r rows.Row) (edge, bool) {
	var best edge
	for c, i := range t.heads {
		sign := -r[c].Sign()
		if sign == 0 || t.fixed(c) || sign < 0 && !t.free(c) {
			continue
		}
		if best.sign == 0 || i < t.heads[best.column] {
			best = edge{c, sign}
		}
	}
	return best, best.sign != 0
}

// block returns the first inequality that is violated behind the corner at the
// other end of the edge, and false if the edge has no end.
func (t *Table) block(e edge) (int, bool) {
	var best int
	var value, fall whole.Int // of the best one; the edge is as long as their quotient
	direction := t.direction(e)
	for i, c := range t.conds {
		if c.Eq || t.dropped[i] {
			continue
		}
		along := c.Row.Along(direction)
		if along.Sign() >= 0 {
			continue
		}
		at := t.value(c.Row)
		if fall.Sign() == 0 || at.Times(fall).Cmp(value.Times(along)) > 0 {
			best, value, fall = i, at, along
		}
	}
	return best, fall.Sign() != 0
}

// direction returns the direction of the edge, times low.
func (t *Table) direction(e edge) []whole.Int {
	out := append([]whole.Int{}, t.columns[e.column]...)
	if e.sign < 0 {
		for k, x := range out {
			out[k] = x.Neg()
		}
	}
	return out
}

// beyond returns the point of an edge without end at which r, that is not
// negative at the corner and falls on the edge, is -1.
func (t *Table) beyond(r rows.Row, e edge) []frac.Frac {
	direction := t.direction(e)
	length := t.value(r).Plus(t.low)
	fall := r.Along(direction).Neg()
	out := make([]frac.Frac, len(t.corner))
	for k, x := range t.corner {
		out[k] = frac.New(x.Times(fall).Plus(direction[k].Times(length)), t.low.Times(fall))
	}
	return out
}
