package auto

import (
	"strconv"
	"strings"

	"floodmark/api"
	"floodmark/poly"
)

// writer collects the printed form of an automaton.
type writer struct {
	names []string
	text  []byte
	full  bool // a polyhedron alone is too long
}

// Print returns the printed form of a.
func Print(names []string, a api.Auto) (string, api.Errno) {
	if !Valid(a) {
		return "", api.ErrArg
	}
	if len(names) != a.Dim || !areNames(names) {
		return "", api.ErrForm
	}
	w := writer{names: names}
	w.auto(a)
	if w.full || len(w.text) > api.MaxText {
		return "", api.ErrFull
	}
	return string(w.text), api.OK
}

// areNames reports whether names are names of at most MaxDim variables.
func areNames(names []string) bool {
	_, e := poly.Print(names, api.Poly{Dim: len(names)})
	return e == api.OK
}

func (w *writer) auto(a api.Auto) {
	w.line("auto ", a.Dim)
	for _, l := range a.Locs {
		w.line("loc ", l.Inv, " | ", l.Flow)
	}
	for _, j := range a.Jumps {
		w.add("jump ", j.From, " ", j.To, " ", j.Label, " | ", j.Guard)
		for v, s := range j.Assign {
			w.assign(w.names[v], s)
		}
		w.line()
	}
	for _, z := range a.Init {
		w.line("init ", z.Loc, " | ", z.Set)
	}
}

func (w *writer) assign(name string, s api.Assign) {
	switch s.Kind {
	case api.Guess:
		w.add(" | ", name, " := ?")
	case api.Set:
		w.add(" | ", name, " := ", s.Form)
		if s.Low != 1 {
			w.add(" / ", s.Low)
		}
	}
}

// line adds items and a line feed.
func (w *writer) line(items ...any) {
	w.add(items...)
	w.add("\n")
}

// add adds strings, integers, forms and polyhedra.
func (w *writer) add(items ...any) {
	for _, item := range items {
		switch x := item.(type) {
		case string:
			w.text = append(w.text, x...)
		case int:
			w.text = strconv.AppendInt(w.text, int64(x), 10)
		case api.Form:
			w.text = append(w.text, w.form(x)...)
		case api.Poly:
			w.text = append(w.text, w.poly(x)...)
		}
	}
}

func (w *writer) poly(p api.Poly) string {
	text, e := poly.Print(w.names, p)
	w.full = w.full || e != api.OK
	return text
}

// form returns the printed form of a condition without its relation.
func (w *writer) form(f api.Form) string {
	text := w.poly(api.Poly{Dim: len(f.Coef), Conds: []api.Cond{{Form: f}}})
	return strings.TrimSuffix(text, " >= 0")
}
