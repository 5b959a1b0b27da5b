package product

import (
	"slices"

	"floodmark/api"
	"floodmark/frac"
)

// cursor is what is left of a run of one part.
type cursor struct {
	loc   int
	steps []api.Step
	rest  frac.Frac // of the Time of the first step
}

func cursorOf(r api.Run) *cursor {
	c := &cursor{loc: r.Start.Loc, steps: r.Steps}
	c.arrive()
	return c
}

// arrive prepares the first step. Delays with the Time 0 change nothing and
// are left out.
func (c *cursor) arrive() {
	for c.waits() && c.steps[0].Time.Top == 0 {
		c.steps = c.steps[1:]
	}
	if c.waits() {
		c.rest = frac.Of(c.steps[0].Time)
	}
}

// waits reports whether the first step is a delay.
func (c *cursor) waits() bool { return len(c.steps) > 0 && c.steps[0].Jump == delaying }

// wait goes on by a part of the delay.
func (c *cursor) wait(time frac.Frac) {
	c.rest = c.rest.Minus(time)
	if c.rest.Sign() == 0 {
		c.steps = c.steps[1:]
		c.arrive()
	}
}

// leap goes on by a jump to the location.
func (c *cursor) leap(to int) {
	c.loc = to
	c.steps = c.steps[1:]
	c.arrive()
}

// join returns the run of the product that goes through r and s side by side;
// these match. Each of its steps ends a step of r or s.
func (p *product) join(r, s api.Run) (api.Run, api.Errno) {
	out := api.Run{Start: api.State{
		Loc:   p.pair([2]int{r.Start.Loc, s.Start.Loc}),
		Point: slices.Concat(r.Start.Point, s.Start.Point),
	}}
	cursors := [2]*cursor{cursorOf(r), cursorOf(s)}
	for len(cursors[first].steps)+len(cursors[second].steps) > 0 {
		t, valid := p.next(cursors)
		if !valid || len(out.Steps) == api.MaxSteps {
			return api.Run{}, api.ErrFull
		}
		out.Steps = append(out.Steps, t)
	}
	return out, api.OK
}

// next makes both runs go on by one step of the product, and returns it and
// whether it is valid. Jumps come before delays, and those that are not shared
// before those that are: so no run waits for the other one in vain.
func (p *product) next(cursors [2]*cursor) (api.Step, bool) {
	for side, c := range cursors {
		if c.waits() || len(c.steps) == 0 {
			continue
		}
		number := c.steps[0].Jump
		if !p.isShared(p.parts[side].Jumps[number]) {
			parts := [2]int{none, none}
			parts[side] = number
			return p.leap(cursors, parts), true
		}
	}
	if !cursors[first].waits() {
		return p.leap(cursors, [2]int{cursors[first].steps[0].Jump, cursors[second].steps[0].Jump}), true
	}
	return wait(cursors)
}

// leap makes both runs go on by their partial jumps.
func (p *product) leap(cursors [2]*cursor, parts [2]int) api.Step {
	from := [2]int{cursors[first].loc, cursors[second].loc}
	number := slices.IndexFunc(p.links, func(l link) bool { return l.parts == parts && l.from == from })
	t := api.Step{Jump: number, Time: api.Num{Low: 1}}
	for side, c := range cursors {
		if parts[side] != none {
			t.Guess = append(t.Guess, c.steps[0].Guess...)
			c.leap(p.links[number].to[side])
		}
	}
	return t
}

// wait makes both runs go on by a delay, as long as the shorter one of theirs.
func wait(cursors [2]*cursor) (api.Step, bool) {
	time := cursors[first].rest
	if cursors[second].rest.Cmp(time) < 0 {
		time = cursors[second].rest
	}
	t := api.Step{Jump: delaying}
	for _, c := range cursors {
		t.Rates = append(t.Rates, c.steps[0].Rates...)
		c.wait(time)
	}
	valid := false
	t.Time, valid = time.Num()
	return t, valid
}
