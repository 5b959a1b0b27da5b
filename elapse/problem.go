package elapse

import (
	"floodmark/api"
	"floodmark/frac"
	"floodmark/rows"
	"floodmark/simplex"
	"floodmark/whole"
)

// problem builds the linear problem of a delay. Its variables are those of the
// point at the start, those of the way from there to the end (the time times
// the rates, so that the problem is linear), and the time.
type problem struct {
	n     int // variables of a point
	conds []simplex.Cond
}

// way is a solution of a problem.
type way struct {
	start, distance []frac.Frac
	time            frac.Frac
}

func newProblem(n int) *problem { return &problem{n: n} }

// start demands that the point at the start satisfies the conditions.
func (p *problem) start(conds []simplex.Cond) *problem {
	for _, c := range conds {
		r := p.row()
		copy(r, c.Row[:p.n])
		r[p.add()] = c.Row.Add()
		p.conds = append(p.conds, simplex.Cond{Row: r, Eq: c.Eq})
	}
	return p
}

// move demands that the way is a time, which is at least 0, times rates that
// satisfy the conditions. The rates are bounded, so that the way is 0 if the
// time is.
func (p *problem) move(flow []simplex.Cond) *problem {
	for _, c := range flow {
		r := p.row()
		copy(r[p.n:], c.Row) // Add is multiplied by the time
		p.conds = append(p.conds, simplex.Cond{Row: r, Eq: c.Eq})
	}
	r := p.row()
	r[2*p.n] = whole.Of(1)
	p.conds = append(p.conds, simplex.Cond{Row: r})
	return p
}

// end demands that the way ends at y.
func (p *problem) end(y []api.Num) *problem {
	for i, a := range y {
		r := p.row()
		r[i], r[p.n+i] = whole.Of(a.Low), whole.Of(a.Low)
		r[p.add()] = whole.Of(-a.Top)
		p.conds = append(p.conds, simplex.Cond{Row: r, Eq: true})
	}
	return p
}

// solve returns a solution, and whether there is one.
func (p *problem) solve() (way, bool) {
	t := simplex.New(p.add(), p.conds)
	if _, is := t.Feasible(); !is {
		return way{}, false
	}
	l := t.Point()
	parts := cut(l, p.n, 2)
	return way{parts[0], parts[1], l[2*p.n]}, true
}

// cut returns the first parts of the list, of n numbers each.
func cut(l []frac.Frac, n, parts int) [][]frac.Frac {
	out := make([][]frac.Frac, parts)
	for i := range parts {
		out[i] = l[i*n : (i+1)*n : (i+1)*n]
	}
	return out
}

// row returns the row without any variable.
func (p *problem) row() rows.Row { return make(rows.Row, p.add()+1) }

// add is the place of Add in a row, which is the number of variables.
func (p *problem) add() int { return 2*p.n + 1 }

// rates returns rates of the flow that lead along the way: any ones if the
// time is 0.
func (w way) rates(flow []simplex.Cond) []frac.Frac {
	n := len(w.distance)
	if w.time.Sign() == 0 {
		t := simplex.New(n, flow)
		t.Feasible() // because a flow is not empty
		return t.Point()
	}
	out := make([]frac.Frac, n)
	for i := range n {
		out[i] = w.distance[i].Over(w.time)
	}
	return out
}
