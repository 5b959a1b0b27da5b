package auto

import (
	"math"
	"math/rand"
	"slices"
	"strings"

	"floodmark/api"
	"floodmark/poly"
)

const most = api.MaxNum

var names = []string{"x", "y", "z", "w"}

func least(add int, coef ...int) api.Cond {
	return api.Cond{Form: api.Form{Coef: coef, Add: add}}
}

func equal(add int, coef ...int) api.Cond {
	return api.Cond{Form: api.Form{Coef: coef, Add: add}, Eq: true}
}

func polyhedron(n int, conds ...api.Cond) api.Poly { return api.Poly{Dim: n, Conds: conds} }

// read returns the polyhedron of a text about x and y.
func read(text string) api.Poly {
	p, e := poly.Parse(names[:2], text)
	if e != api.OK {
		panic(text)
	}
	return p
}

func set(low, add int, coef ...int) api.Assign {
	return api.Assign{Kind: api.Set, Form: api.Form{Coef: coef, Add: add}, Low: low}
}

func keep() api.Assign { return api.Assign{Kind: api.Keep} }

func guess() api.Assign { return api.Assign{Kind: api.Guess} }

// model returns a new automaton with two variables and three locations.
func model() api.Auto {
	return api.Auto{
		Dim: 2,
		Locs: []api.Loc{
			{Inv: read("x <= 10, y >= 0"), Flow: read("1 <= x, x <= 2, y = 0")},
			{Inv: read("true"), Flow: read("x = 0, y = 0")},
			{Inv: read("x >= 0"), Flow: read("x + y <= 1, x >= 0, y >= -1")},
		},
		Jumps: []api.Jump{
			{From: 0, To: 1, Label: 3, Guard: read("x >= 8"), Assign: []api.Assign{set(2, 1, 3, -1), keep()}},
			{From: 1, To: 1, Guard: read("true"), Assign: []api.Assign{guess(), set(1, 0, 0, 0)}},
			{From: 1, To: 0, Label: 20, Guard: read("x = 3, y <= 4"), Assign: []api.Assign{keep(), keep()}},
		},
		Init: []api.Zone{
			{Loc: 0, Set: read("x = 5, y >= -2")}, {Loc: 2, Set: read("x + y >= 1, y <= 2")}, {Loc: 0, Set: read("x = 50")},
		},
	}
}

// modelText is the printed form of the model.
const modelText = `auto 2
loc -x + 10 >= 0, y >= 0 | x - 1 >= 0, -x + 2 >= 0, y = 0
loc true | x = 0, y = 0
loc x >= 0 | -x - y + 1 >= 0, x >= 0, y + 1 >= 0
jump 0 1 3 | x - 8 >= 0 | x := 3 x - y + 1 / 2
jump 1 1 0 | true | x := ? | y := 0
jump 1 0 20 | x - 3 = 0, -y + 4 >= 0
init 0 | x - 5 = 0, y + 2 >= 0
init 2 | x + y - 1 >= 0, -y + 2 >= 0
init 0 | x - 50 = 0
`

// changed returns models with one change each.
func changed[T any](values []T, change func(a *api.Auto, x T)) []api.Auto {
	var out []api.Auto
	for _, x := range values {
		a := model()
		change(&a, x)
		out = append(out, a)
	}
	return out
}

// badSets returns polyhedra that are not valid in two variables.
func badSets() []api.Poly {
	many := polyhedron(2)
	for i := range api.MaxConds + 1 {
		many.Conds = append(many.Conds, equal(i, 0, 0))
	}
	return []api.Poly{
		many, {}, polyhedron(1), polyhedron(3), polyhedron(-1), polyhedron(math.MaxInt), polyhedron(3, equal(0, 1, 0, 0)),
		polyhedron(2, api.Cond{}), polyhedron(2, least(0, 1)), polyhedron(2, least(0, 1, 1, 1)), polyhedron(1, least(0, 1, 1)),
		polyhedron(2, equal(most+1, 0, 0)), polyhedron(2, least(0, 1, -most-1)), polyhedron(2, least(math.MinInt, 1, 1)),
	}
}

// badAssigns returns assignments that are not valid in two variables.
func badAssigns() []api.Assign {
	return []api.Assign{
		set(1, 0), set(1, 0, 1), set(1, 0, 1, 1, 1), set(0, 0, 1, 1), set(-1, 0, 1, 1), set(most+1, 0, 1, 1), set(math.MinInt, 0, 1, 1),
		set(1, most+1, 1, 1), set(1, math.MinInt, 1, 1), set(1, 0, -most-1, 1), set(1, 0, 1, math.MaxInt),
		{Kind: api.Keep, Low: 1}, {Kind: api.Keep, Form: api.Form{Add: 1}}, {Kind: api.Keep, Form: api.Form{Coef: []int{0, 0}}},
		{Kind: api.Guess, Low: 1}, {Kind: api.Guess, Form: api.Form{Add: -1}}, {Kind: api.Guess, Form: api.Form{Coef: []int{0, 0}}},
		{Kind: 3}, {Kind: -1}, {Kind: math.MaxInt, Form: api.Form{Coef: []int{0, 0}}, Low: 1},
	}
}

// bad returns automata that are not valid, each one for one reason.
func bad() []api.Auto {
	locs := []int{-1, 3, math.MinInt, math.MaxInt}
	flows := []api.Poly{
		read("true"), read("x = 0"), read("x >= 0, x <= 1, y >= 0"), read("x = y"), read("x + y <= 1, x >= 0"), // not bounded
		read("x >= 1, x <= 0"), read("-1 >= 0"), read("x = 0, y = 0, x + y = 1"), // empty
	}
	return slices.Concat(
		changed(append(badSets(), flows...), func(a *api.Auto, p api.Poly) { a.Locs[2].Flow = p }),
		changed(badSets(), func(a *api.Auto, p api.Poly) { a.Locs[2].Inv = p }),
		changed(badSets(), func(a *api.Auto, p api.Poly) { a.Jumps[2].Guard = p }),
		changed(badSets(), func(a *api.Auto, p api.Poly) { a.Init[2].Set = p }),
		changed(badAssigns(), func(a *api.Auto, s api.Assign) { a.Jumps[2].Assign[1] = s }),
		changed([]int{-1, 0, 1, 3, api.MaxVars + 1, math.MinInt, math.MaxInt}, func(a *api.Auto, n int) { a.Dim = n }),
		changed(locs, func(a *api.Auto, l int) { a.Jumps[2].From = l }),
		changed(locs, func(a *api.Auto, l int) { a.Jumps[2].To = l }),
		changed(locs, func(a *api.Auto, l int) { a.Init[2].Loc = l }),
		changed([]int{-1, 21, math.MinInt, math.MaxInt}, func(a *api.Auto, l int) { a.Jumps[2].Label = l }),
		changed([]int{0, 1, 3}, func(a *api.Auto, n int) { a.Jumps[2].Assign = make([]api.Assign, n) }),
		changed([]int{0, 13, 1000}, func(a *api.Auto, n int) {
			a.Locs = slices.Repeat(a.Locs, 400)[:n]
			a.Jumps, a.Init = nil, nil
		}),
		changed([]int{41, 1000}, func(a *api.Auto, n int) { a.Jumps = slices.Repeat(a.Jumps, 400)[:n] }),
		changed([]int{13, 1000}, func(a *api.Auto, n int) { a.Init = slices.Repeat(a.Init, 400)[:n] }),
		[]api.Auto{{}, wide()},
	)
}

// wide returns an automaton that has too many variables, and no other flaw.
func wide() api.Auto {
	a := api.Auto{Dim: api.MaxVars + 1, Locs: []api.Loc{{Inv: polyhedron(api.MaxVars + 1), Flow: polyhedron(api.MaxVars + 1)}}}
	for v := range a.Dim {
		c := equal(0, make([]int, a.Dim)...)
		c.Form.Coef[v] = 1
		a.Locs[0].Flow.Conds = append(a.Locs[0].Flow.Conds, c)
	}
	return a
}

// integer returns a random integer, which is often small or 0.
func integer(random *rand.Rand) int {
	size := []int{1, 3, 3, 3, 100, most}[random.Intn(6)]
	return (random.Intn(2*size+1) - size) * random.Intn(2)
}

func someForm(random *rand.Rand, n int) api.Form {
	f := api.Form{Coef: make([]int, n), Add: integer(random)}
	for i := range f.Coef {
		f.Coef[i] = integer(random)
	}
	return f
}

func someSet(random *rand.Rand, n int) api.Poly {
	p := polyhedron(n)
	for range random.Intn(4) {
		p.Conds = append(p.Conds, api.Cond{Form: someForm(random, n), Eq: random.Intn(4) == 0})
	}
	return p
}

// someFlow returns a random polyhedron between bounds.
func someFlow(random *rand.Rand, n int) api.Poly {
	for {
		p := someSet(random, n)
		for v := range n {
			low := least(random.Intn(3), make([]int, n)...)
			high := least(random.Intn(3), make([]int, n)...)
			low.Form.Coef[v], high.Form.Coef[v] = 1, -1
			p.Conds = append(p.Conds, low, high)
		}
		if is, _ := poly.Empty(p); !is {
			return p
		}
	}
}

func someAssign(random *rand.Rand, n int) api.Assign {
	switch random.Intn(4) {
	case 0:
		return guess()
	case 1:
		return keep()
	}
	low := []int{1, 1, 2, 7, most}[random.Intn(5)]
	return api.Assign{Kind: api.Set, Form: someForm(random, n), Low: low}
}

// someAuto returns a random automaton.
func someAuto(random *rand.Rand) api.Auto {
	a := api.Auto{Dim: random.Intn(api.MaxVars + 1)}
	for range 1 + random.Intn(5) {
		a.Locs = append(a.Locs, api.Loc{Inv: someSet(random, a.Dim), Flow: someFlow(random, a.Dim)})
	}
	for range random.Intn(7) {
		j := api.Jump{From: random.Intn(len(a.Locs)), To: random.Intn(len(a.Locs)), Label: random.Intn(21), Guard: someSet(random, a.Dim)}
		for range a.Dim {
			j.Assign = append(j.Assign, someAssign(random, a.Dim))
		}
		a.Jumps = append(a.Jumps, j)
	}
	for range random.Intn(4) {
		a.Init = append(a.Init, api.Zone{Loc: random.Intn(len(a.Locs)), Set: someSet(random, a.Dim)})
	}
	return a
}

// samples calls a test with many random automata.
func samples(times int, test func(random *rand.Rand, a api.Auto)) {
	random := rand.New(rand.NewSource(34))
	for range times {
		test(random, someAuto(random))
	}
}

// blanks returns some number of blanks.
func blanks(random *rand.Rand, fewest int) string {
	return strings.Repeat(" ", fewest+random.Intn(3)*random.Intn(2))
}

// spaced returns a printed form with other numbers of blanks, where there may
// be any.
func spaced(random *rand.Rand, text string) string {
	first, rest, _ := strings.Cut(text, "\n")
	out := first + "\n"
	for line := range strings.Lines(rest) {
		line = strings.TrimSuffix(line, "\n")
		word, tail, _ := strings.Cut(line, " ")
		out += word + " "
		if word != "loc" {
			head, others, _ := strings.Cut(tail, " |")
			out += head + blanks(random, 0) + "|"
			tail = others
		}
		for _, c := range tail {
			switch c {
			case ' ':
				out += blanks(random, 0)
			case '-', '+', '|', '/', '?', ',':
				out += blanks(random, 0) + string(c) + blanks(random, 0)
			default:
				out += string(c)
			}
		}
		out += blanks(random, 0) + "\n"
	}
	return out
}
