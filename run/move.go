package run

import (
	"slices"

	"floodmark/api"
	"floodmark/frac"
	"floodmark/lin"
	"floodmark/num"
	"floodmark/poly"
	"floodmark/rows"
)

// delaying is the Jump of a delay.
const delaying = -1

// place is a state whose numbers may have any size.
type place struct {
	loc   int
	point []frac.Frac
}

// move is a step of one of the two kinds, which is valid in form.
type move interface {
	// from returns where the move leads from s, and whether it is possible
	// there if that place is allowed.
	from(a api.Auto, s api.State) (place, bool)
	// step returns the move as a step of its own.
	step() api.Step
}

type delay struct {
	time  api.Num
	rates []api.Num
}

type jump struct {
	number int
	time   api.Num
	guess  []api.Num
}

func moveOf(a api.Auto, t api.Step) move {
	if t.Jump == delaying {
		return delay{t.Time, t.Rates}
	}
	return jump{t.Jump, t.Time, t.Guess}
}

func (d delay) from(a api.Auto, s api.State) (place, bool) {
	flows, _ := poly.Has(a.Locs[s.Loc].Flow, d.rates)
	return place{s.Loc, along(s.Point, frac.Of(d.time), d.rates)}, flows && d.time.Top >= 0
}

func (d delay) step() api.Step {
	return api.Step{Jump: delaying, Time: d.time, Rates: slices.Clone(d.rates)}
}

func (m jump) from(a api.Auto, s api.State) (place, bool) {
	j := a.Jumps[m.number]
	values, guessed := settled(j, s.Point)
	for i, v := range guessed {
		values[v] = frac.Of(m.guess[i])
	}
	return place{j.To, values}, starts(j, s) && m.time.Top == 0
}

func (m jump) step() api.Step {
	return api.Step{Jump: m.number, Time: m.time, Guess: slices.Clone(m.guess)}
}

// after returns the state after the move, if it is possible in s.
func after(a api.Auto, s api.State, m move) (api.State, api.Errno) {
	to, may := m.from(a, s)
	if !may || !has(a.Locs[to.loc].Inv, to.point) {
		return api.State{}, api.ErrStep
	}
	point, valid := frac.Nums(to.point)
	if !valid {
		return api.State{}, api.ErrFull
	}
	return api.State{Loc: to.loc, Point: point}, api.OK
}

// starts reports whether the jump starts in s.
func starts(j api.Jump, s api.State) bool {
	is, _ := poly.Has(j.Guard, s.Point)
	return is && j.From == s.Loc
}

// has is poly's Has for numbers of any size.
func has(p api.Poly, x []frac.Frac) bool {
	tops, low := frac.Tops(x)
	for _, c := range p.Conds {
		sign := rows.Of(c.Form).At(tops, low).Sign()
		if sign < 0 || c.Eq && sign > 0 {
			return false
		}
	}
	return true
}

// along returns the point x + time rates.
func along(x []api.Num, time frac.Frac, rates []api.Num) []frac.Frac {
	out := make([]frac.Frac, len(x))
	for i, y := range x {
		out[i] = frac.Of(y).Plus(time.Times(frac.Of(rates[i])))
	}
	return out
}

// validSteps reports whether a run may have these steps.
func validSteps(a api.Auto, l []api.Step) bool {
	invalid := func(t api.Step) bool { return !validStep(a, t) }
	return len(l) <= api.MaxSteps && !slices.ContainsFunc(l, invalid)
}

// validStep reports whether t is valid in form.
func validStep(a api.Auto, t api.Step) bool {
	if t.Jump < delaying || t.Jump >= len(a.Jumps) || !num.Valid(t.Time) {
		return false
	}
	if t.Jump == delaying {
		return lin.ValidPoint(a.Dim, t.Rates) && len(t.Guess) == 0
	}
	return len(t.Rates) == 0 && lin.ValidPoint(len(guessedBy(a.Jumps[t.Jump])), t.Guess)
}
