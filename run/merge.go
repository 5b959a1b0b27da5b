package run

import (
	"floodmark/api"
	"floodmark/frac"
)

// pause is a sequence of delays: their time, and how far they move each
// variable.
type pause struct {
	time frac.Frac
	way  []frac.Frac
}

func noPause(n int) pause {
	p := pause{time: frac.Of(api.Num{Low: 1})}
	for range n {
		p.way = append(p.way, p.time)
	}
	return p
}

// and returns the pause with one more delay.
func (p pause) and(d delay) pause {
	time := frac.Of(d.time)
	out := pause{time: p.time.Plus(time)}
	for i, x := range p.way {
		out.way = append(out.way, x.Plus(time.Times(frac.Of(d.rates[i]))))
	}
	return out
}

// steps returns the delay that does the same, unless that has the Time 0, and
// whether it is valid.
func (p pause) steps() ([]api.Step, bool) {
	if p.time.Sign() == 0 {
		return nil, true
	}
	time, valid := p.time.Num()
	var means []frac.Frac
	for _, x := range p.way {
		means = append(means, x.Over(p.time))
	}
	rates, validToo := frac.Nums(means)
	return []api.Step{delay{time, rates}.step()}, valid && validToo
}

// merged returns the steps with one delay instead of consecutive ones and
// without those that have the Time 0, and whether all of them are valid.
func merged(a api.Auto, l []api.Step) ([]api.Step, bool) {
	var out []api.Step
	p := noPause(a.Dim)
	for _, t := range l {
		switch m := moveOf(a, t).(type) {
		case delay:
			p = p.and(m)
		case jump:
			steps, valid := p.steps()
			if !valid {
				return nil, false
			}
			out = append(append(out, steps...), m.step())
			p = noPause(a.Dim)
		}
	}
	steps, valid := p.steps()
	return append(out, steps...), valid
}
