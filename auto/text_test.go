package auto

import (
	"math/rand"
	"reflect"
	"strings"
	"testing"

	"floodmark/api"
)

// tankText is the tank of the document.
const tankText = "auto 1\nloc -x + 10 >= 0 | x - 1 >= 0, -x + 2 >= 0\nloc x >= 0 | x + 1 = 0\njump 0 1 0 | x - 8 >= 0\njump 1 0 0 | -x + 2 >= 0\ninit 0 | x - 5 = 0\n"

func tank() api.Auto {
	return api.Auto{
		Dim: 1,
		Locs: []api.Loc{
			{Inv: polyhedron(1, least(10, -1)), Flow: polyhedron(1, least(-1, 1), least(2, -1))},
			{Inv: polyhedron(1, least(0, 1)), Flow: polyhedron(1, equal(1, 1))},
		},
		Jumps: []api.Jump{
			{From: 0, To: 1, Guard: polyhedron(1, least(-8, 1)), Assign: []api.Assign{keep()}},
			{From: 1, To: 0, Guard: polyhedron(1, least(2, -1)), Assign: []api.Assign{keep()}},
		},
		Init: []api.Zone{{Set: polyhedron(1, equal(-5, 1))}},
	}
}

// P10.7
func TestPrint(t *testing.T) {
	odd := model()
	odd.Locs, odd.Init = odd.Locs[1:2], nil
	odd.Jumps = odd.Jumps[:1]
	odd.Jumps[0] = api.Jump{Label: 7, Guard: read("2 x >= 4, 0 = 0, -3 >= 0"), Assign: []api.Assign{set(most, -most, 0, -1), set(1, 0, -2, 4)}}
	two := model()
	two.Locs, two.Init = two.Locs[1:2], nil
	two.Jumps = []api.Jump{{Guard: polyhedron(2), Assign: []api.Assign{keep(), set(2, -4, 0, 0)}}, {Guard: polyhedron(2), Assign: []api.Assign{set(6, 4, 2, 0), guess()}}}
	for _, c := range []struct {
		names []string
		a     api.Auto
		want  string
	}{
		{[]string{"x"}, tank(), tankText},
		{[]string{"Level9"}, tank(), strings.ReplaceAll(tankText, "x", "Level9")},
		{names[:2], model(), modelText},
		{names[:2], odd, "auto 2\nloc true | x = 0, y = 0\njump 0 0 7 | 2 x - 4 >= 0, 0 = 0, -3 >= 0 | x := -y - 1152921504606846976 / 1152921504606846976 | y := -2 x + 4 y\n"},
		{names[:2], two, "auto 2\nloc true | x = 0, y = 0\njump 0 0 0 | true | y := -4 / 2\njump 0 0 0 | true | x := 2 x + 4 / 6 | y := ?\n"},
		{nil, chain(2, []int{1}, [2]int{1, 0}), "auto 0\nloc true | true\nloc true | true\njump 1 0 0 | -1 >= 0\ninit 1 | -1 >= 0\n"},
	} {
		if text, e := Print(c.names, c.a); text != c.want || e != api.OK {
			t.Errorf("Print of %v: %q, %d", c.a, text, e)
		}
		if a, e := Parse(c.names, c.want); !Identical(a, c.a) || e != api.OK {
			t.Errorf("Parse of %q: %v, %d", c.want, a, e)
		}
	}
	for _, l := range append(badNames(), nil, names[:1], names[:3], strings.Split("abcdefghi", "")) {
		if text, e := Print(l, model()); text != "" || e != api.ErrForm {
			t.Errorf("Print with %q: %q, %d", l, text, e)
		}
	}
	if text, e := Print([]string{"x"}, chain(1, nil)); text != "" || e != api.ErrForm {
		t.Errorf("Print with a name too many: %q, %d", text, e)
	}
}

// badNames returns lists of two strings that are not names.
func badNames() [][]string {
	return [][]string{{"x", ""}, {"x", "x"}, {"x", "1"}, {"x_", "y"}, {"x", " y"}, {"x y", "z"}, {"x", "é"}, {"abcdefghijklm", "x"}, {"x", "|"}, {"x", "y\n"}, {"?", "x"}}
}

// P10.7: the longest text, and one byte more.
func TestLongText(t *testing.T) {
	l := strings.Split("abcd", "")
	a := api.Auto{Dim: 4, Locs: []api.Loc{{Inv: polyhedron(4), Flow: polyhedron(4, equal(0, 1, 0, 0, 0), equal(0, 0, 1, 0, 0), equal(0, 0, 0, 1, 0), equal(0, 0, 0, 0, 1))}}}
	const ten15 = 1000000000000000
	length := func() int {
		text, e := Print(l, a)
		if e != api.OK {
			t.Fatal(e)
		}
		return len(text)
	}
	for range api.MaxLocs - 1 {
		a.Locs = append(a.Locs, api.Loc{Inv: polyhedron(4, least(0, 1, 0, 0, 0)), Flow: a.Locs[0].Flow})
	}
	a.Locs[0].Inv.Conds = append(a.Locs[0].Inv.Conds, least(1, 1, 0, 0, 0))
	for i := 0; length() < api.MaxText-200; i++ {
		p := &a.Locs[1+i%(api.MaxLocs-1)].Inv
		p.Conds = append(p.Conds, least(ten15, ten15, ten15, ten15, ten15))
	}
	for length() < api.MaxText-16 {
		p := &a.Locs[0].Inv
		p.Conds = append(p.Conds, least(0, 0, 1, 0, 0))
	}
	for length() < api.MaxText {
		a.Locs[0].Inv.Conds[0].Form.Add *= 10
	}
	text, e := Print(l, a)
	if len(text) != api.MaxText || e != api.OK {
		t.Fatalf("%d bytes, %d", len(text), e)
	}
	if b, e := Parse(l, text); !Identical(a, b) || e != api.OK {
		t.Errorf("Parse of the longest text: %d", e)
	}
	if b, e := Parse(l, text+" "); !reflect.DeepEqual(b, api.Auto{}) || e != api.ErrFull {
		t.Errorf("Parse of one byte too many: %v, %d", b, e)
	}
	a.Locs[0].Inv.Conds[0].Form.Add *= 10
	if text, e := Print(l, a); text != "" || e != api.ErrFull {
		t.Errorf("Print of one byte too many: %d bytes, %d", len(text), e)
	}
	// A polyhedron that is too long alone.
	a.Locs[0].Inv = polyhedron(4)
	for range api.MaxConds {
		a.Locs[0].Inv.Conds = append(a.Locs[0].Inv.Conds, least(-most, -most, -most, -most, -most))
	}
	a.Locs = a.Locs[:1]
	if text, e := Print([]string{"abcdefghijkl", "bbcdefghijkl", "cbcdefghijkl", "dbcdefghijkl"}, a); text != "" || e != api.ErrFull {
		t.Errorf("Print of a long polyhedron: %d bytes, %d", len(text), e)
	}
	if text, e := Print([]string{"abcdefghijkl", "bbcdefghijkl", "cbcdefghijkl", "bbcdefghijkl"}, a); text != "" || e != api.ErrForm {
		t.Errorf("Print of a long polyhedron with bad names: %d bytes, %d", len(text), e)
	}
}

// P10.7: what may be written in another way.
func TestParseWays(t *testing.T) {
	for _, text := range []string{
		"auto 2\nloc   x<=10,y>=0|1<=x,2>=x,y=0  \nloc true|x=0,y=0\nloc x>=0|1>=x+y,x>=0,y>=-1\n" +
			"jump 0 1 3|x>=8|x:=1+3x-y/2\njump 1 1 0|true|x:=?|y:=0\njump 1 0 20   |x=3,y<=4\n" +
			"init 0|x=5,y>=-2\ninit 2|x+y>=1,2>=y\ninit 0|x=50\n",
		"auto 2\nloc -x + 10 >= 0, y >= 0   |   x - 1 >= 0, -x + 2 >= 0, y = 0\nloc  true  | x = 0, y = 0   \nloc x >= 0 | -x - y + 1 >= 0, 2 x - x >= 0, y + 3 >= 2\n" +
			"jump 0 1 3  |  x - 008 >= 0  |  x  :=  2 x + x - y + 5 - 4  /  2  \njump 1 1 0 | true | x :=   ?   | y := 5 y - 5 y\njump 1 0 20 | x - 3 = 0, -y + 4 >= 0 \n" +
			"init 0  | x - 5 = 0, y + 2 >= 0\ninit 2 |  x + y - 1 >= 0, -y + 2 >= 0\ninit 0 | x - 50 = 0    \n",
		"auto 2\nloc -x + 10 >= 0, y >= 0 | x - 1 >= 0, -x + 2 >= 0, y = 0\nloc true | x = 0, y = 0\nloc x >= 0 | -x - y + 1 >= 0, x >= 0, y + 1 >= 0\n" +
			"jump 0 1 3 | x - 8 >= 0 | x := - y + 1152921504606846976 + 3 x + 1 - 1152921504606846976/2\njump 1 1 0 | true|x:=?|y:=-0\njump 1 0 20 | x - 3 = 0, -y + 4 >= 0\n" +
			"init 0 | x - 5 = 0, y + 2 >= 0\ninit 2 | x + y - 1 >= 0, -y + 2 >= 0\ninit 0 | x - 50 = 0\n",
	} {
		if a, e := Parse(names[:2], text); !Identical(a, model()) || e != api.OK {
			t.Errorf("Parse of %q: %v, %d", text, a, e)
		}
	}
	// Names that look like other parts of the text.
	l := []string{"true", "loc"}
	want := model()
	want.Locs, want.Init = want.Locs[1:2], nil
	want.Jumps = []api.Jump{{Guard: read("y >= x"), Assign: []api.Assign{set(1, 0, 1, 0), set(3, 0, 1, 1)}}}
	text := "auto 2\nloc true | true = 0, loc = 0\njump 0 0 0 | loc >= true | true := true | loc := true + loc / 3\n"
	if a, e := Parse(l, text); !Identical(a, want) || e != api.OK {
		t.Errorf("Parse of %q: %v, %d", text, a, e)
	}
	large := "auto 1\nloc true | x = 0\njump 0 0 0 | true | x := 1152921504606846976 x - 1152921504606846976 / 1152921504606846976\n"
	if a, e := Parse(names[:1], large); e != api.OK || !sameAssign(a.Jumps[0].Assign[0], set(most, -most, most)) {
		t.Errorf("Parse of %q: %v, %d", large, a, e)
	}
}

// refuse checks that a text is refused.
func refuse(t *testing.T, l []string, text string, want api.Errno) {
	t.Helper()
	if a, e := Parse(l, text); e != want || !reflect.DeepEqual(a, api.Auto{}) {
		t.Errorf("Parse of %.200q with %q: %v, %d, not %d", text, l, a, e, want)
	}
}

// P10.7: texts of a wrong form; each one is a change of a right one.
func TestParseForm(t *testing.T) {
	right := "auto 2\nloc true | x = 0, y = 0\nloc true | x = 0, y = 0\njump 0 1 3 | x >= 8 | x := 3 x - y + 1 / 2 | y := ?\ninit 0 | true\n"
	if _, e := Parse(names[:2], right); e != api.OK {
		t.Fatal(e)
	}
	for _, c := range [][2]string{
		{"auto 2", " auto 2"}, {"auto 2", "auto 2 "}, {"auto 2", "auto  2"}, {"auto 2", "auto2"}, {"auto 2", "auto 02"}, {"auto 2", "auto"}, {"auto 2", "auto "},
		{"auto 2", "auto 1"}, {"auto 2", "auto 3"}, {"auto 2", "auto +2"}, {"auto 2", "auto -2"}, {"auto 2", "auto 2\n"}, {"auto 2", "auto 1\nauto 2"}, {"auto 2", "\nauto 2"}, {"auto 2", "Auto 2"},
		{"auto 2", "auto 2\r"}, {"auto 2\n", ""}, {"auto 2", "auto 2\nauto 2"}, {"auto 2", "auto two"}, {"auto 2", "auto 1152921504606846977"}, {"auto 2", "auto 99999999999999999999"},
		{"loc ", "loc"}, {"loc ", "loc\t"}, {"loc ", " loc "}, {"loc ", "\nloc "}, {"loc ", "loc 0 "}, {"loc true |", "loc |"}, {"loc true |", "loc true"}, {"loc true |", "loc true ||"},
		{"loc true |", "loc true | true |"}, {"loc true", "loc x >= 0,"}, {"loc true", "loc x"}, {"loc true", "loc truetrue"}, {"| x = 0, y = 0", "|"}, {"| x = 0, y = 0", "| x = 0 y = 0"}, {"| x = 0, y = 0", "| x = 0, z = 0"},
		{"| x = 0, y = 0", "| x = 0, y = 0 |"}, {"| x = 0, y = 0\n", "| x = 0, y = 0"}, {"y = 0\n", "y = 0\t\n"}, {"y = 0\n", "y = 0\r\n"}, {"y = 0\n", "y = 0\n\n"}, {"y = 0\n", "y = 0\n \n"},
		{"jump 0", " jump 0"}, {"jump 0", "jump  0"}, {"jump 0", "jump0"}, {"jump 0", "jump 00"}, {"jump 0", "jump -0"}, {"jump 0", "jump"}, {"jump 0", "jump x"}, {"jump 0 1", "jump 0  1"}, {"jump 0 1", "jump 0 01"},
		{"0 1 3 |", "0 1 3 3 |"}, {"0 1 3 |", "0 1 |"}, {"0 1 3 |", "0 1  3 |"}, {"0 1 3 |", "0 1 03 |"}, {"0 1 3 |", "0 1 3. |"}, {"0 1 3 |", "0 1 3"}, {"0 1 3 |", "0, 1, 3 |"}, {"0 1 3 |", "0 1 3\t|"},
		{"jump 0", "jump 1152921504606846977"}, {"1 3 |", "1152921504606846977 3 |"}, {"1 3 |", "1 1152921504606846977 |"}, {"1 3 |", "1 340282366920938463463374607431768211456 |"}, {"1 3 |", "1 18446744073709551619 |"},
		{"| x >= 8 |", "||"}, {"| x >= 8 |", "|"}, {"| x >= 8 |", "| x >= 8"}, {"x >= 8", "x => 8"}, {"x >= 8", "x > 8"}, {"x >= 8", "8"},
		{"x :=", "x :"}, {"x :=", "x ="}, {"x :=", "x : ="}, {"x :=", ":="}, {"x :=", "z :="}, {"x :=", "X :="}, {"x :=", "x y :="}, {"x :=", "x := x :="}, {"x :=", "y :="}, {"x :=", "2 x :="}, {"x :=", "x\t:="},
		{"3 x - y + 1 / 2", ""}, {"3 x - y + 1 / 2", "/ 2"}, {"3 x - y + 1 / 2", "3 x - z / 2"}, {"3 x - y + 1 / 2", "(3 x - y + 1) / 2"}, {"3 x - y + 1 / 2", "3 x - y + 1 >= 0 / 2"},
		{"3 x - y + 1 / 2", "3 x >= 0, y"}, {"3 x - y + 1 / 2", "3 x, y"}, {"3 x - y + 1 / 2", "x = 0"}, {"3 x - y + 1 / 2", "x = 0, y"}, {"3 x - y + 1 / 2", "x <"}, {"3 x - y + 1 / 2", "x =="}, {"3 x - y + 1 / 2", "true"}, {"3 x - y + 1 / 2", "x -"}, {"3 x - y + 1 / 2", "3 3"},
		{"/ 2", "/ 0"}, {"/ 2", "/ 1"}, {"/ 2", "/ 02"}, {"/ 2", "/"}, {"/ 2", "/ -2"}, {"/ 2", "/ +2"}, {"/ 2", "/ x"}, {"/ 2", "/ 2 x"}, {"/ 2", "/ 2 2"}, {"/ 2", "/ 2 / 2"}, {"/ 2", "/ / 2"}, {"/ 2", "/ 2."}, {"/ 2", "/ 0000000000000000000000000000002"},
		{"/ 2", "/ 2 + x"}, {"/ 2", "/ 2, 3"}, {"/ 2", "/ 2 ?"}, {"y := ?", "y := ??"}, {"y := ?", "y := ? / 2"}, {"y := ?", "y := x ?"}, {"y := ?", "y := ? x"}, {"y := ?", "y ?"}, {"y := ?", "x := ?"}, {"y := ?", "y := ? |"}, {"y := ?", "y := ? | x := ?"}, {"y := ?", "y := ? | y := ?"},
		{"init 0", " init 0"}, {"init 0", "init  0"}, {"init 0", "init"}, {"init 0", "init 00"}, {"init 0", "init 0 0"}, {"init 0", "init x"}, {"init 0", "init -1"}, {"init 0", "init 1152921504606846977"}, {"init 0 | true", "init 0"}, {"init 0 | true", "init 0 |"}, {"init 0 | true", "init 0 | true | true"}, {"init 0 | true", "init | true"},
		{"init 0 | true\n", "init 0 | true"}, {"init 0 | true\n", "init 0 | true\n\n"}, {"init 0 | true\n", "init 0 | true\n "}, {"init 0 | true\n", "init 0 | true\nx"}, {"init 0 | true\n", "init 0 | true\nstop\n"}, {"init 0 | true\n", "init 0 | true\nloc true | x = 0, y = 0\n"},
		{"init 0 | true\n", "init 0 | true\njump 0 0 0 | true\n"}, {"jump", "init 0 | true\njump"}, {"loc true", "jump 0 0 0 | true\nloc true"}, {"init", "initial"}, {"jump", "jumps"}, {"loc", "location"}, {"auto", "automaton"},
	} {
		text := strings.Replace(right, c[0], c[1], 1)
		if text == right {
			t.Fatalf("no change: %q", c)
		}
		refuse(t, names[:2], text, api.ErrForm)
	}
	for _, text := range []string{"", "\n", " ", "auto", "auto 1", "auto 2", "loc true | x = 0\n", "auto 1\nloc true\n", "auto 1\nloc true | x = 1\nloop\n", "\x00", "auto 1\nloc \n", "auto 1\njump \n", "auto 1\ninit \n", "auto 1\nloc"} {
		refuse(t, names[:1], text, api.ErrForm)
	}
}

// P10.7: the names come first, then the length, the form, the size of the
// integers, and at last what is not valid.
func TestParseErrors(t *testing.T) {
	for _, l := range append(badNames(), strings.Split("abcdefghi", "")) {
		refuse(t, l, modelText, api.ErrForm)
		refuse(t, l, strings.Repeat(" ", api.MaxText+1), api.ErrForm)
	}
	refuse(t, names, modelText, api.ErrForm)
	refuse(t, names[:1], modelText, api.ErrForm)
	refuse(t, nil, strings.Repeat("\n", api.MaxText+1), api.ErrFull)
	refuse(t, nil, strings.Repeat("\n", api.MaxText), api.ErrForm)
	long := "x >= 0" + strings.Repeat(", x >= 0", api.MaxConds)
	for _, c := range [][2]string{
		{"-x + 10 >= 0", "-x + 1152921504606846977 >= 0"}, {"-x + 10 >= 0", "-1152921504606846977 x >= 0"}, {"-x + 10 >= 0", "1152921504606846977 >= 1152921504606846977"}, {"-x + 10 >= 0", "1152921504606846976 x + x >= 0"},
		{"-x + 10 >= 0", long}, {"x = 0", "x = 99999999999999999999"}, {"x - 8 >= 0", long}, {"x - 8 >= 0", "x >= 1152921504606846977"}, {"x - 5 = 0", long}, {"x - 5 = 0", "x = -1152921504606846977"},
		{":= 0", ":= 1152921504606846977"}, {":= 0", ":= 1152921504606846976 + 1"}, {":= 0", ":= 1152921504606846977 x - 1152921504606846977 x"}, {":= 0", ":= -x - 1152921504606846976 x / 3"}, {"/ 2", "/ 1152921504606846977"},
		{"/ 2", "/ 9223372036854775808"}, {"/ 2", "/ 18446744073709551618"}, {"/ 2", "/ 340282366920938463463374607431768211456"},
	} {
		text := strings.Replace(modelText, c[0], c[1], 1)
		if text == modelText {
			t.Fatalf("no change: %q", c)
		}
		refuse(t, names[:2], text, api.ErrFull)
		refuse(t, names[:2], strings.Replace(text, "jump 1 0 20", "jump 1 0 21", 1), api.ErrFull)
		refuse(t, names[:2], text+"end", api.ErrForm)
		refuse(t, names[:2], text+"init 0 | x\n", api.ErrForm)
		refuse(t, names[:2], strings.TrimSuffix(text, "\n"), api.ErrForm)
	}
	for _, c := range [][2]string{
		{"jump 0", "jump 3"}, {"jump 0 1", "jump 0 3"}, {"jump 0 1 3", "jump 0 1 21"}, {"jump 0 1 3", "jump 0 1 1152921504606846976"}, {"init 2", "init 3"}, {"init 2", "init 1152921504606846976"},
		{"x = 0, y = 0", "x = 0"}, {"x = 0, y = 0", "true"}, {"x = 0, y = 0", "x = 0, y = 0, x = 1"}, {"x = 0, y = 0", "-1 >= 0"},
		{"loc true", strings.Repeat("loc true | x = 0, y = 0\n", 10) + "loc true"}, {"jump 1", strings.Repeat("jump 0 0 0 | true\n", 38) + "jump 1"}, {"init 2", strings.Repeat("init 0 | true\n", 10) + "init 2"},
	} {
		text := strings.Replace(modelText, c[0], c[1], 1)
		if text == modelText {
			t.Fatalf("no change: %q", c)
		}
		refuse(t, names[:2], text, api.ErrArg)
	}
	refuse(t, names[:1], "auto 1\nloc true | x >= 1\n", api.ErrArg)
	refuse(t, names[:1], "auto 1\n", api.ErrArg)
	refuse(t, nil, "auto 0\n", api.ErrArg)
	refuse(t, nil, "auto 0\nloc true | 0 = 1\n", api.ErrArg)
	refuse(t, strings.Split("abcde", ""), "auto 5\nloc true | a = 0, b = 0, c = 0, d = 0, e = 0\n", api.ErrArg)
	refuse(t, strings.Split("abcdefgh", ""), "auto 8\n", api.ErrArg)
}

// P10.7, P10.8: printed forms, also with other blanks.
func TestRoundTrip(t *testing.T) {
	samples(1000, func(random *rand.Rand, a api.Auto) {
		l := names[:a.Dim]
		text, e := Print(l, a)
		if e != api.OK {
			t.Fatalf("Print of %v: %d", a, e)
		}
		if b, e := Parse(l, text); !Identical(a, b) || e != api.OK {
			t.Fatalf("%v is printed as %q and parsed as %v, %d", a, text, b, e)
		}
		other := spaced(random, text)
		if b, e := Parse(l, other); !Identical(a, b) || e != api.OK {
			t.Fatalf("%v is parsed of %q as %v, %d", a, other, b, e)
		}
	})
}

// P10.7: whatever is accepted can be printed.
func TestParseDamaged(t *testing.T) {
	const bytes = " \n|:=?/+->,0129xyz\t\x00"
	accepted := 0
	samples(300, func(random *rand.Rand, a api.Auto) {
		l := names[:a.Dim]
		text, _ := Print(l, a)
		for range 10 {
			i := random.Intn(len(text))
			j := min(len(text), i+random.Intn(3))
			k := random.Intn(len(bytes))
			damaged := text[:i] + bytes[k:min(len(bytes), k+random.Intn(2))] + text[j:]
			b, e := Parse(l, damaged)
			if e != api.OK {
				if !reflect.DeepEqual(b, api.Auto{}) || e != api.ErrForm && e != api.ErrFull && e != api.ErrArg {
					t.Fatalf("Parse of %q: %v, %d", damaged, b, e)
				}
				continue
			}
			accepted++
			again, e := Print(l, b)
			c, e2 := Parse(l, again)
			if !Identical(b, c) || !Valid(b) || e != api.OK || e2 != api.OK {
				t.Fatalf("Parse of %q: %v, printed as %q, %d, parsed as %v, %d", damaged, b, again, e, c, e2)
			}
		}
	})
	if accepted < 100 {
		t.Errorf("only %d texts are accepted", accepted)
	}
}
