package poly

import (
	"slices"
	"strconv"
	"strings"

	"floodmark/api"
)

// Print returns the printed form of p.
func Print(names []string, p api.Poly) (string, api.Errno) {
	if !Valid(p) {
		return "", api.ErrArg
	}
	if len(names) != p.Dim || !areNames(names) {
		return "", api.ErrForm
	}
	text := printed(names, p)
	if len(text) > api.MaxText {
		return "", api.ErrFull
	}
	return text, api.OK
}

func printed(names []string, p api.Poly) string {
	if len(p.Conds) == 0 {
		return "true"
	}
	var list []string
	for _, c := range p.Conds {
		relation := " >= 0"
		if c.Eq {
			relation = " = 0"
		}
		list = append(list, printedForm(names, c.Form)+relation)
	}
	return strings.Join(list, ", ")
}

func printedForm(names []string, f api.Form) string {
	text := ""
	for i, x := range f.Coef {
		if x != 0 {
			text += joint(text == "", x < 0) + term(max(x, -x), names[i])
		}
	}
	if f.Add != 0 || text == "" {
		text += joint(text == "", f.Add < 0) + strconv.Itoa(max(f.Add, -f.Add))
	}
	return text
}

// joint returns what stands before a term.
func joint(first, negative bool) string {
	switch {
	case first && negative:
		return "-"
	case first:
		return ""
	case negative:
		return " - "
	}
	return " + "
}

func term(size int, name string) string {
	if size == 1 {
		return name
	}
	return strconv.Itoa(size) + " " + name
}

// areNames reports whether the strings are names and different from each
// other.
func areNames(names []string) bool {
	for i, name := range names {
		if !isName(name) || slices.Contains(names[:i], name) {
			return false
		}
	}
	return true
}

func isName(name string) bool {
	if name == "" || len(name) > api.MaxName || !isLetter(name[0]) {
		return false
	}
	for i := range len(name) {
		if !isLetterOrDigit(name[i]) {
			return false
		}
	}
	return true
}

func isLetter(c byte) bool { return 'A' <= c && c <= 'Z' || 'a' <= c && c <= 'z' }

func isDigit(c byte) bool { return '0' <= c && c <= '9' }

func isLetterOrDigit(c byte) bool { return isLetter(c) || isDigit(c) }
