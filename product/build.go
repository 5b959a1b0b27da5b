package product

import (
	"slices"

	"floodmark/api"
	"floodmark/auto"
)

const (
	first    = 0  // the place of a
	second   = 1  // the place of b
	none     = -1 // the number of a partial jump that is not there
	maxLabel = 20
)

// link says which jumps and locations of the parts a jump of the product
// results from.
type link struct {
	parts, from, to [2]int
}

type product struct {
	parts  [2]api.Auto
	shared []int
	links  []link // for each jump
	auto   api.Auto
}

// productOf returns the product of a and b, if it is one.
func productOf(a, b api.Auto, shared []int) (product, api.Errno) {
	if !auto.Valid(a) || !auto.Valid(b) {
		return product{}, api.ErrArg
	}
	if !areShared(shared) {
		return product{}, api.ErrRange
	}
	p := product{parts: [2]api.Auto{a, b}, shared: shared}
	p.links = slices.Concat(p.alone(first), p.alone(second), p.together())
	// The counts are checked first, because a product that exceeds them may be
	// much larger than any that is valid.
	if !p.countsFit() || !p.build() {
		return product{}, api.ErrFull
	}
	return p, api.OK
}

// areShared reports whether the labels are a list of shared labels.
func areShared(labels []int) bool {
	last := 0
	for _, l := range labels {
		if l <= last || l > maxLabel {
			return false
		}
		last = l
	}
	return true
}

func (p *product) isShared(j api.Jump) bool { return slices.Contains(p.shared, j.Label) }

// alone returns the links of the jumps of one part that are not shared.
func (p *product) alone(side int) []link {
	other := 1 - side
	var out []link
	for i, j := range p.parts[side].Jumps {
		if p.isShared(j) {
			continue
		}
		for l := range p.parts[other].Locs {
			var k link
			k.parts[side], k.from[side], k.to[side] = i, j.From, j.To
			k.parts[other], k.from[other], k.to[other] = none, l, l
			out = append(out, k)
		}
	}
	return out
}

// together returns the links of the pairs of jumps with a shared label.
func (p *product) together() []link {
	var out []link
	for i, j := range p.parts[first].Jumps {
		for k, m := range p.parts[second].Jumps {
			if p.isShared(j) && j.Label == m.Label {
				out = append(out, link{[2]int{i, k}, [2]int{j.From, m.From}, [2]int{j.To, m.To}})
			}
		}
	}
	return out
}

func (p *product) countsFit() bool {
	a, b := p.parts[first], p.parts[second]
	return a.Dim+b.Dim <= api.MaxVars && len(a.Locs)*len(b.Locs) <= api.MaxLocs &&
		len(p.links) <= api.MaxJumps && len(a.Init)*len(b.Init) <= api.MaxLocs
}

// pair returns the number of a location of the product.
func (p *product) pair(locs [2]int) int { return locs[first]*len(p.parts[second].Locs) + locs[second] }

// unpair returns the locations of the parts.
func (p *product) unpair(loc int) [2]int {
	n := len(p.parts[second].Locs)
	return [2]int{loc / n, loc % n}
}

// build makes the automaton, and reports whether it is valid.
func (p *product) build() bool {
	a, b := p.parts[first], p.parts[second]
	w := widenerOf(a.Dim, b.Dim)
	p.auto.Dim = a.Dim + b.Dim
	for _, l := range a.Locs {
		for _, m := range b.Locs {
			p.auto.Locs = append(p.auto.Locs, api.Loc{Inv: w.both(l.Inv, m.Inv), Flow: w.both(l.Flow, m.Flow)})
		}
	}
	for _, l := range p.links {
		p.auto.Jumps = append(p.auto.Jumps, p.jump(w, l))
	}
	for _, y := range a.Init {
		for _, z := range b.Init {
			p.auto.Init = append(p.auto.Init, api.Zone{Loc: p.pair([2]int{y.Loc, z.Loc}), Set: w.both(y.Set, z.Set)})
		}
	}
	return !w.full
}

// jump returns the jump of a link.
func (p *product) jump(w *widener, l link) api.Jump {
	j, m := p.partial(l, first), p.partial(l, second)
	return api.Jump{
		From: p.pair(l.from), To: p.pair(l.to), Label: max(j.Label, m.Label),
		Guard:  w.both(j.Guard, m.Guard),
		Assign: slices.Concat(w.assigns(first, j.Assign), w.assigns(second, m.Assign)),
	}
}

// partial returns the jump of one part of a link. Where there is none, it is
// one that keeps everything and has no label.
func (p *product) partial(l link, side int) api.Jump {
	if l.parts[side] != none {
		return p.parts[side].Jumps[l.parts[side]]
	}
	n := p.parts[side].Dim
	return api.Jump{Guard: api.Poly{Dim: n}, Assign: make([]api.Assign, n)}
}
