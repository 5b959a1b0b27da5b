package auto

import (
	"iter"
	"slices"
	"strconv"
	"strings"

	"floodmark/api"
	"floodmark/poly"
)

// refusal is what the parser panics with where the text is wrong, so that its
// methods need not pass errors on.
type refusal api.Errno

// scanner hands out the lines of the rest of a text.
type scanner struct{ rest string }

// parser reads an automaton line by line.
type parser struct {
	scanner
	names []string
	full  bool // an integer is too large, or a polyhedron has too many conditions
}

// Parse returns the automaton that the text denotes.
func Parse(names []string, text string) (a api.Auto, e api.Errno) {
	if !areNames(names) {
		return api.Auto{}, api.ErrForm
	}
	if len(text) > api.MaxText {
		return api.Auto{}, api.ErrFull
	}
	defer func() {
		if r, is := recover().(refusal); is {
			a, e = api.Auto{}, api.Errno(r)
		}
	}()
	p := parser{scanner: scanner{text}, names: names}
	return p.auto(), api.OK
}

// line reads the next line, if it starts with the word and a blank, and returns
// what follows them.
func (s *scanner) line(word string) (string, bool) {
	rest, is := strings.CutPrefix(s.rest, word+" ")
	if !is {
		return "", false
	}
	line, next, ends := strings.Cut(rest, "\n")
	demand(ends)
	s.rest = next
	return line, true
}

// lines yields the lines that come next and start with the word and a blank.
func (s *scanner) lines(word string) iter.Seq[string] {
	return func(yield func(string) bool) {
		for line, is := s.line(word); is && yield(line); line, is = s.line(word) {
		}
	}
}

// auto reads the whole text. The errors of numbers come last, because the rest
// of the text may still be of a wrong form.
func (p *parser) auto() api.Auto {
	a := api.Auto{Dim: p.dim()}
	for line := range p.lines("loc") {
		parts := fields(line, 2, 2)
		a.Locs = append(a.Locs, api.Loc{Inv: p.poly(parts[0]), Flow: p.poly(parts[1])})
	}
	for line := range p.lines("jump") {
		a.Jumps = append(a.Jumps, p.jump(line))
	}
	for line := range p.lines("init") {
		parts := fields(line, 2, 2)
		a.Init = append(a.Init, api.Zone{Loc: number(trimEnd(parts[0])), Set: p.poly(parts[1])})
	}
	demand(p.rest == "")
	switch {
	case p.full:
		panic(refusal(api.ErrFull))
	case !Valid(a):
		panic(refusal(api.ErrArg))
	}
	return a
}

// dim reads the first line, which has the number of the names.
func (p *parser) dim() int {
	line, is := p.line("auto")
	demand(is && number(line) == len(p.names))
	return len(p.names)
}

func (p *parser) jump(line string) api.Jump {
	parts := fields(line, 2, 2+len(p.names))
	head := strings.Split(trimEnd(parts[0]), " ")
	demand(len(head) == 3)
	j := api.Jump{From: number(head[0]), To: number(head[1]), Label: number(head[2]), Guard: p.poly(parts[1])}
	j.Assign = p.assigns(parts[2:])
	return j
}

// assigns returns an assignment for each variable. The texts are those of
// increasing variables, and the other ones are kept.
func (p *parser) assigns(texts []string) []api.Assign {
	out := make([]api.Assign, len(p.names))
	last := -1
	for _, text := range texts {
		name, value, is := strings.Cut(text, ":=")
		v := slices.Index(p.names, trim(name))
		demand(is && v > last)
		out[v] = p.assign(value)
		last = v
	}
	return out
}

func (p *parser) assign(value string) api.Assign {
	if trim(value) == "?" {
		return api.Assign{Kind: api.Guess}
	}
	form, low, isOver := strings.Cut(value, "/")
	s := api.Assign{Kind: api.Set, Form: p.form(form), Low: 1}
	if isOver {
		s.Low = p.divisor(trim(low))
	}
	return s
}

// form reads an expression as the left side of a condition.
func (p *parser) form(text string) api.Form {
	demand(!strings.ContainsAny(text, ",<>="))
	q := p.poly(text + ">= 0")
	if len(q.Conds) == 0 { // because of an integer
		return api.Form{}
	}
	return q.Conds[0].Form
}

func (p *parser) poly(text string) api.Poly {
	q, e := poly.Parse(p.names, text)
	demand(e != api.ErrForm)
	p.full = p.full || e == api.ErrFull
	return q
}

// divisor reads what follows the sign of division.
func (p *parser) divisor(text string) int {
	n, fits := decimal(text)
	demand(n >= 2)
	p.full = p.full || !fits
	return n
}

// number reads a number that must not be above MaxNum.
func number(text string) int {
	n, fits := decimal(text)
	demand(fits)
	return n
}

// decimal reads digits without leading zeros, and reports whether the number
// is at most MaxNum. If it is not, it only returns a large one.
func decimal(text string) (int, bool) {
	demand(text == "0" || text != "" && text[0] != '0' && strings.Trim(text, "0123456789") == "")
	n, err := strconv.Atoi(text)
	return n, err == nil && n <= api.MaxNum
}

// fields returns the parts of a line between the bars.
func fields(line string, least, most int) []string {
	out := strings.Split(line, "|")
	demand(least <= len(out) && len(out) <= most)
	return out
}

// demand refuses a text of a wrong form.
func demand(is bool) {
	if !is {
		panic(refusal(api.ErrForm))
	}
}

func trim(text string) string { return strings.Trim(text, " ") }

func trimEnd(text string) string { return strings.TrimRight(text, " ") }
