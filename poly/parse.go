package poly

import (
	"slices"
	"strings"

	"floodmark/api"
	"floodmark/rows"
	"floodmark/simplex"
	"floodmark/whole"
)

// refusal is what the reader panics with where the text is wrong, so that its
// methods need not pass errors on.
type refusal api.Errno

// reader reads conditions from the rest of a text.
type reader struct {
	names []string
	rest  string
	full  bool // an integer of the text exceeds MaxNum
}

// Parse returns the polyhedron that the text denotes, as it is written.
func Parse(names []string, text string) (p api.Poly, e api.Errno) {
	if len(names) > api.MaxDim || !areNames(names) {
		return api.Poly{}, api.ErrForm
	}
	if len(text) > api.MaxText {
		return api.Poly{}, api.ErrFull
	}
	defer func() {
		if r, is := recover().(refusal); is {
			p, e = api.Poly{}, api.Errno(r)
		}
	}()
	return polyOf(len(names), conditions(names, text)), api.OK
}

// conditions returns the conditions of the text.
func conditions(names []string, text string) []simplex.Cond {
	if strings.Trim(text, " ") == "true" {
		return nil
	}
	r := reader{names: names, rest: text}
	list := []simplex.Cond{r.condition()}
	for r.accept(",") {
		list = append(list, r.condition())
	}
	r.skipBlanks()
	if r.rest != "" {
		panic(refusal(api.ErrForm))
	}
	if r.full {
		panic(refusal(api.ErrFull))
	}
	return list
}

// polyOf checks the limits only of the sums of the terms, because these may
// exceed them on the way.
func polyOf(n int, l []simplex.Cond) api.Poly {
	p := api.Poly{Dim: n}
	for _, c := range l {
		f, fits := c.Row.Form()
		if !fits || len(p.Conds) == api.MaxConds {
			panic(refusal(api.ErrFull))
		}
		p.Conds = append(p.Conds, api.Cond{Form: f, Eq: c.Eq})
	}
	return p
}

func (r *reader) condition() simplex.Cond {
	left := r.expression()
	switch {
	case r.accept(">="):
		return simplex.Cond{Row: left.Plus(r.expression().Neg())}
	case r.accept("<="):
		return simplex.Cond{Row: left.Neg().Plus(r.expression())}
	case r.accept("="):
		return simplex.Cond{Row: left.Plus(r.expression().Neg()), Eq: true}
	}
	panic(refusal(api.ErrForm))
}

// expression reads terms and returns their sum.
func (r *reader) expression() rows.Row {
	sum := make(rows.Row, len(r.names)+1)
	r.term(sum, r.accept("-"))
	for {
		switch {
		case r.accept("+"):
			r.term(sum, false)
		case r.accept("-"):
			r.term(sum, true)
		default:
			return sum
		}
	}
}

// term reads a term and adds it to the sum.
func (r *reader) term(sum rows.Row, negative bool) {
	factor := whole.Of(1)
	digits := r.take(isDigit)
	if digits != "" {
		factor = r.integer(digits)
	}
	if negative {
		factor = factor.Neg()
	}
	place := r.place(digits != "")
	sum[place] = sum[place].Plus(factor)
}

// integer returns the integer with these digits. That it is too large is only
// noted, because the rest of the text may still be of a wrong form, which
// comes first.
func (r *reader) integer(digits string) whole.Int {
	n := whole.Decimal(digits)
	if _, fits := n.Within(api.MaxNum); !fits {
		r.full = true
	}
	return n
}

// place reads the name of a term and returns its place in a row. A term
// without a name must be an integer, and belongs to the last place.
func (r *reader) place(isInteger bool) int {
	name := r.take(isLetterOrDigit)
	if name == "" && isInteger {
		return len(r.names)
	}
	i := slices.Index(r.names, name)
	if i < 0 {
		panic(refusal(api.ErrForm))
	}
	return i
}

func (r *reader) skipBlanks() { r.rest = strings.TrimLeft(r.rest, " ") }

// accept reads a sign, if it comes next, and reports whether it did.
func (r *reader) accept(sign string) bool {
	r.skipBlanks()
	rest, is := strings.CutPrefix(r.rest, sign)
	r.rest = rest
	return is
}

// take reads the bytes that come next and are of a kind.
func (r *reader) take(is func(byte) bool) string {
	r.skipBlanks()
	n := 0
	for n < len(r.rest) && is(r.rest[n]) {
		n++
	}
	taken := r.rest[:n]
	r.rest = r.rest[n:]
	return taken
}
