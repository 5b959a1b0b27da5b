package poly

import (
	"math/rand"
	"reflect"
	"strings"
	"testing"

	"floodmark/api"
)

var (
	names    = []string{"x", "y"}
	badNames = [][]string{{""}, {"1"}, {"1x"}, {"x_"}, {"x y"}, {" x"}, {"é"}, {"x", "x"}, {"x", "y", "x"}, {"abcdefghijklm"}, {"x-"}, {"@"}, {"["}, {"`"}, {"{"}, {"x:"}, {"x/"}}
)

func zeros(n int) []int { return make([]int, n) }

// P4.11
func TestPrint(t *testing.T) {
	for _, c := range []struct {
		names []string
		p     api.Poly
		want  string
	}{
		{names, polyhedron(2, equal(-2, 1, 1), least(2, 0, -1)), "x + y - 2 = 0, -y + 2 >= 0"},
		{names, polyhedron(2), "true"},
		{nil, polyhedron(0), "true"},
		{[]string{}, polyhedron(0, least(-1), equal(0), least(1)), "-1 >= 0, 0 = 0, 1 >= 0"},
		{names, polyhedron(2, least(0, 0, 0), least(0, 0, 5), equal(7, -1, 0), least(-7, -3, -1)), "0 >= 0, 5 y >= 0, -x + 7 = 0, -3 x - y - 7 >= 0"},
		{names, polyhedron(2, least(4, 2, 4)), "2 x + 4 y + 4 >= 0"},
		{names, polyhedron(2, equal(most, most, -most)), "1152921504606846976 x - 1152921504606846976 y + 1152921504606846976 = 0"},
		{names, polyhedron(2, equal(-most, -most, 0)), "-1152921504606846976 x - 1152921504606846976 = 0"},
		{[]string{"true", "Z9az0AZz9999"}, polyhedron(2, least(1, 1, -10)), "true - 10 Z9az0AZz9999 + 1 >= 0"},
	} {
		if text, e := Print(c.names, c.p); text != c.want || e != api.OK {
			t.Errorf("Print of %v: %q, %d", c.p, text, e)
		}
	}
	for _, l := range append(badNames, nil, []string{"x", "y", "z"}) {
		if text, e := Print(l, polyhedron(2)); text != "" || e != api.ErrForm {
			t.Errorf("Print with %q: %q, %d", l, text, e)
		}
		if len(l) == 1 {
			if text, e := Print(l, polyhedron(1)); text != "" || e != api.ErrForm {
				t.Errorf("Print with %q: %q, %d", l, text, e)
			}
		}
	}
	if text, e := Print([]string{"x"}, polyhedron(2)); text != "" || e != api.ErrForm {
		t.Errorf("Print with one name of two: %q, %d", text, e)
	}
}

// P4.11: texts of exactly MaxText bytes are printed and parsed.
func TestLongText(t *testing.T) {
	const ten15 = 1000000000000000
	l := strings.Split("abcdefg", "")
	long, short := least(0, ten15, ten15, ten15, ten15, ten15, ten15, ten15), least(0, append([]int{ten15}, zeros(6)...)...)
	last := least(1, append([]int{1}, zeros(6)...)...)
	room := api.MaxText - len("a + 1 >= 0")
	p := polyhedron(7)
	for ; room >= 151; room -= 151 {
		p.Conds = append(p.Conds, long)
	}
	for ; room >= 25; room -= 25 {
		p.Conds = append(p.Conds, short)
	}
	for ; room > 0; room-- {
		last.Form.Add *= 10
	}
	p.Conds = append(p.Conds, last)
	text, e := Print(l, p)
	if e != api.OK || len(text) != api.MaxText {
		t.Fatalf("%d bytes, %d", len(text), e)
	}
	if q, e := Parse(l, text); e != api.OK || !Identical(p, q) {
		t.Errorf("Parse of the longest text: %d", e)
	}
	last.Form.Coef[0] = -1
	if text, e := Print(l, p); e != api.ErrFull || text != "" {
		t.Errorf("one byte too many: %d bytes, %d", len(text), e)
	}
}

// P4.11
func TestParse(t *testing.T) {
	for _, c := range []struct {
		text string
		want []api.Cond
	}{
		{"true", nil}, {"  true ", nil},
		{"x>=0", []api.Cond{least(0, 1, 0)}},
		{" x >= 0 , y<=3,x=y ", []api.Cond{least(0, 1, 0), least(3, 0, -1), equal(0, 1, -1)}},
		{" 3x+2 -y<= 2 y - 1 ", []api.Cond{least(-3, -3, 3)}},
		{"-x-1>=-y+2", []api.Cond{least(-3, -1, 1)}},
		{"- x = - 5", []api.Cond{equal(5, -1, 0)}},
		{"0 >= 0", []api.Cond{least(0, 0, 0)}},
		{"2 >= 3", []api.Cond{least(-1, 0, 0)}},
		{"2 <= 3", []api.Cond{least(1, 0, 0)}},
		{"2 = 3", []api.Cond{equal(-1, 0, 0)}},
		{"x + x + 2 x - 4x >= 007", []api.Cond{least(-7, 0, 0)}},
		{"0x >= 00", []api.Cond{least(0, 0, 0)}},
		{"x = 1152921504606846976", []api.Cond{equal(-most, 1, 0)}},
		{"x - 1152921504606846976 y <= -1152921504606846976", []api.Cond{least(-most, -1, most)}},
		{"1152921504606846976 x + 1152921504606846976 x >= x + 1152921504606846975 x", []api.Cond{least(0, most, 0)}},
		{"x >= 0" + strings.Repeat(", y >= 1", 119), append([]api.Cond{least(0, 1, 0)}, repeat(least(-1, 0, 1), 119)...)},
		{"x >= " + strings.Repeat("0", 5000) + "3", []api.Cond{least(-3, 1, 0)}},
		{strings.Repeat(" ", api.MaxText-4) + "true", nil},
		{"x>=0" + strings.Repeat(" ", api.MaxText-4), []api.Cond{least(0, 1, 0)}},
		{"1152921504606846976 x >= 1152921504606846976 x", []api.Cond{least(0, 0, 0)}},
		{"0001152921504606846976 x = -x - x + x + x", []api.Cond{equal(0, most, 0)}},
		{"1152921504606846976 + 1152921504606846976 + x <= 1152921504606846976 + 1152921504606846976", []api.Cond{least(0, -1, 0)}},
		{"-1152921504606846976 - 1 = -1", []api.Cond{equal(-most, 0, 0)}},
	} {
		if p, e := Parse(names, c.text); e != api.OK || !Identical(p, polyhedron(2, c.want...)) {
			t.Errorf("Parse of %.40q: %v, %d", c.text, p, e)
		}
	}
	if p, e := Parse(nil, "0 = 1"); !Identical(p, polyhedron(0, equal(-1))) || e != api.OK {
		t.Errorf("without variables: %v, %d", p, e)
	}
	if p, e := Parse(nil, "1152921504606846976 = 1152921504606846975"); !Identical(p, polyhedron(0, equal(1))) || e != api.OK {
		t.Errorf("the greatest integer without variables: %v, %d", p, e)
	}
	if p, e := Parse([]string{"true", "xy", "x1", "x"}, "true>=1,xy=x1+2x"); !Identical(p, polyhedron(4, least(-1, 1, 0, 0, 0), equal(0, 0, 1, -1, -2))) || e != api.OK {
		t.Errorf("names like others: %v, %d", p, e)
	}
	if p, e := Parse([]string{"true"}, "true"); !Identical(p, polyhedron(1)) || e != api.OK {
		t.Errorf("a variable true: %v, %d", p, e)
	}
	eight := strings.Split("abcdefgh", "")
	if p, e := Parse(eight, "h = 2"); !Identical(p, polyhedron(8, equal(-2, 0, 0, 0, 0, 0, 0, 0, 1))) || e != api.OK {
		t.Errorf("eight variables: %v, %d", p, e)
	}
}

func repeat(c api.Cond, times int) []api.Cond {
	var out []api.Cond
	for range times {
		out = append(out, c)
	}
	return out
}

// P4.11
func TestParseErrors(t *testing.T) {
	huge := strings.Repeat("9", 40)
	refused := func(l []string, text string, want api.Errno) {
		t.Helper()
		if p, e := Parse(l, text); e != want || !reflect.DeepEqual(p, api.Poly{}) {
			t.Errorf("Parse of %.40q with %q: %v, %d", text, l, p, e)
		}
	}
	for _, text := range []string{
		"", " ", ",", "x", "5", "x >", "x >=", ">= x", "= x", "x >= z", "x >= 1,", ",x >= 1", "x >= 1,,y >= 1", "x >= 1 y >= 1", "x + + y >= 0", "x >= x 1",
		"x y >= 0", "2 3 >= 0", "2 3x >= 0", "+x >= 0", "x + -y >= 0", "--x >= 0", "x - >= 0", "x > = 0", "x => 0", "x == 0", "x < 0", "x > 0", "x >= 0 >= 0", "x = y = 0",
		"x >= 0;", "2*x >= 0", "x/2 >= 0", "1.5 >= x", "(x) >= 0", "X >= 0", "xx >= 0", "x1 >= 0", "x\t>= 0", "x\n>= 0", "x >= 0\n", "x\u00a0>= 0", "x >= \u0663", "\x00",
		"True", "true true", "true,", "true, x >= 0", "x >= 0, true", "truex", "tr ue", "true >= 0", "x >= 0 true", "x ≥ 0", "x >= -", "- >= 0", "x >= 1e3", "0x10 >= 0",
		huge + " x >= ", huge + " >= 0, x", huge, huge + " = " + huge + " =", huge + " z >= 0", "0 >= 0, " + huge + " " + huge + " >= 0",
		huge + " >= " + huge + ", true", huge + " >= 0" + strings.Repeat(", y >= 1", 120) + ",", strings.Repeat("x >= 0, ", 200), strings.Repeat(" ", api.MaxText),
	} {
		refused(names, text, api.ErrForm)
	}
	for _, text := range []string{
		"x >= 1152921504606846977", "1152921504606846977 x >= 0", "-1152921504606846977 x = 0", "x <= -1152921504606846977", huge + " x >= 0", "x = " + huge,
		"1152921504606846976 x + x >= 0", "1152921504606846976 x >= -x", "0 >= -9223372036854775808", "18446744073709551616 = 0", "x >= 0, y = " + huge,
		huge + " = " + huge, "1152921504606846977 x >= 1152921504606846977 x", "1152921504606846977 >= 1152921504606846977", "x >= 1152921504606846977 - 1152921504606846977",
		"1152921504606846977 y - 1152921504606846977 y = 0", "2 <= 1152921504606846977 - 1", "x >= -1152921504606846977 + 1", "0001152921504606846977 x = 3x + 1152921504606846974 x",
		huge + " x >= 0 x + " + huge + " x, x >= 0", "x >= 0, x >= 0 + " + huge + " - " + huge, strings.Repeat("9", 5000) + " x >= " + strings.Repeat("9", 4999) + "8 x",
		huge + " >= " + huge + strings.Repeat(", y >= 1", 120),
		"x >= 0" + strings.Repeat(", y >= 1", 120), "x >= 0" + strings.Repeat(", y >= 1", 400), strings.Repeat(" ", api.MaxText) + "?", strings.Repeat("9", api.MaxText-2) + "=x",
	} {
		refused(names, text, api.ErrFull)
	}
	refused(nil, "99999999999999999999=99999999999999999998", api.ErrFull)
	refused(nil, "99999999999999999999=99999999999999999998 x", api.ErrForm)
	for _, l := range append(badNames, strings.Split("abcdefghi", "")) {
		refused(l, "true", api.ErrForm)
		refused(l, strings.Repeat(" ", api.MaxText+1), api.ErrForm)
	}
}

// P4.14
func TestRoundTrip(t *testing.T) {
	random := rand.New(rand.NewSource(7))
	l := []string{"x", "y2", "Long9name000", "true", "q", "r", "s", "t"}
	for range 1000 {
		n, size := random.Intn(api.MaxDim+1), []int{1, 2, 50, most}[random.Intn(4)]
		p := polyhedron(n)
		for range random.Intn(12) {
			c := api.Cond{Form: form(random.Intn(2*size+1)-size, zeros(n)...), Eq: random.Intn(2) == 0}
			for i := range c.Form.Coef {
				c.Form.Coef[i] = (random.Intn(2*size+1) - size) * random.Intn(2)
			}
			p.Conds = append(p.Conds, c)
		}
		text, e := Print(l[:n], p)
		if q, e2 := Parse(l[:n], text); !Identical(p, q) || e != api.OK || e2 != api.OK {
			t.Fatalf("%v is printed as %q, %d, and parsed as %v, %d", p, text, e, q, e2)
		}
	}
}
