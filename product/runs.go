package product

import (
	"iter"
	"slices"

	"floodmark/api"
	"floodmark/frac"
	"floodmark/run"
)

// delaying is the Jump of a delay.
const delaying = -1

func zero() frac.Frac { return frac.Of(api.Num{Low: 1}) }

// times yields the steps of a possible run, each one with the time at which it
// ends.
func times(r api.Run) iter.Seq2[frac.Frac, api.Step] {
	return func(yield func(frac.Frac, api.Step) bool) {
		sum := zero()
		for _, t := range r.Steps {
			sum = sum.Plus(frac.Of(t.Time))
			if !yield(sum, t) {
				return
			}
		}
	}
}

// event is a jump with a shared label.
type event struct {
	time  api.Num
	label int
}

// events returns the events of a run of one part in their order, and its
// duration. It returns false if a time is not valid.
func (p *product) events(side int, r api.Run) ([]event, api.Num, bool) {
	var out []event
	end := api.Num{Low: 1}
	for time, t := range times(r) {
		now, valid := time.Num()
		if !valid {
			return nil, api.Num{}, false
		}
		end = now
		if t.Jump != delaying && p.isShared(p.parts[side].Jumps[t.Jump]) {
			out = append(out, event{now, p.parts[side].Jumps[t.Jump].Label})
		}
	}
	return out, end, true
}

// match reports whether r and s, which may be any, are possible runs that
// match.
func (p *product) match(r, s api.Run) (bool, api.Errno) {
	_, e := run.Follow(p.parts[first], r)
	_, f := run.Follow(p.parts[second], s)
	if e == api.OK || f == api.ErrArg {
		e = f
	}
	if e != api.OK {
		return false, e
	}
	events, end, valid := p.events(first, r)
	others, otherEnd, validToo := p.events(second, s)
	if !valid || !validToo {
		return false, api.ErrFull
	}
	return end == otherEnd && slices.Equal(events, others), api.OK
}

// partOf returns the part of a run of the product on one side.
func (p *product) partOf(r api.Run, side int) api.Run {
	out := api.Run{Start: api.State{Loc: p.unpair(r.Start.Loc)[side], Point: p.cut(r.Start.Point, p.parts[first].Dim, side)}}
	for _, t := range r.Steps {
		if t.Jump == delaying {
			out.Steps = append(out.Steps, api.Step{Jump: delaying, Time: t.Time, Rates: p.cut(t.Rates, p.parts[first].Dim, side)})
			continue
		}
		l := p.links[t.Jump]
		if l.parts[side] == none {
			continue
		}
		guesses := guessesOf(p.partial(l, first))
		out.Steps = append(out.Steps, api.Step{Jump: l.parts[side], Time: t.Time, Guess: p.cut(t.Guess, guesses, side)})
	}
	return out
}

// cut returns what belongs to one side of a list whose first n numbers belong
// to a.
func (p *product) cut(l []api.Num, n, side int) []api.Num {
	if side == first {
		return slices.Clone(l[:n])
	}
	return slices.Clone(l[n:])
}

// guessesOf returns how many variables the jump guesses.
func guessesOf(j api.Jump) int {
	n := 0
	for _, s := range j.Assign {
		if s.Kind == api.Guess {
			n++
		}
	}
	return n
}
