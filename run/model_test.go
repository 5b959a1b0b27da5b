package run

import (
	"math"
	"math/big"
	"math/rand"
	"slices"

	"floodmark/api"
	"floodmark/auto"
)

const most = api.MaxNum

func number(top, low int) api.Num { return api.Num{Top: top, Low: low} }

func integers(l ...int) []api.Num {
	var out []api.Num
	for _, x := range l {
		out = append(out, number(x, 1))
	}
	return out
}

func state(loc int, x ...api.Num) api.State { return api.State{Loc: loc, Point: x} }

func delayed(time api.Num, rates ...api.Num) api.Step {
	return api.Step{Jump: -1, Time: time, Rates: rates}
}

func jumped(j int, guess ...api.Num) api.Step {
	return api.Step{Jump: j, Time: number(0, 1), Guess: guess}
}

func runOf(s api.State, steps ...api.Step) api.Run { return api.Run{Start: s, Steps: steps} }

func read(names []string, text string) api.Auto {
	a, e := auto.Parse(names, text)
	if e != api.OK {
		panic(text)
	}
	return a
}

// tank is the tank of the document.
func tank() api.Auto {
	return read([]string{"x"}, `auto 1
loc -x + 10 >= 0 | x - 1 >= 0, -x + 2 >= 0
loc x >= 0 | x + 1 = 0
jump 0 1 0 | x - 8 >= 0
jump 1 0 0 | -x + 2 >= 0
init 0 | x - 5 = 0
`)
}

// model has jumps with all kinds of assignments.
func model() api.Auto {
	return read([]string{"x", "y"}, `auto 2
loc x <= 10, y >= 0 | 1 <= x, x <= 2, y >= 0, y <= 1
loc true | x = 0, y = 0
loc x + y >= 0, x - y <= 20 | x + y <= 1, x >= 0, y >= -1
jump 0 1 3 | x >= 8 | x := 3 x - y + 1 / 2
jump 1 1 0 | true | x := ? | y := 0
jump 1 0 20 | x >= 3, y <= 4
jump 1 2 0 | true | x := ? | y := ?
jump 1 0 0 | y >= 0 | x := y | y := x
jump 0 2 1 | y = 0 | x := 10 x | y := ?
init 0 | x = 5, y >= -2
init 1 | x = 0
init 2 | x + y <= 30, y <= 2
`)
}

// still has no variables.
func still() api.Auto {
	return read(nil, "auto 0\nloc true | true\nloc -1 >= 0 | true\njump 0 1 0 | true\njump 0 0 1 | true\njump 0 0 2 | -1 >= 0\ninit 0 | true\n")
}

func rat(a api.Num) *big.Rat { return big.NewRat(int64(a.Top), int64(a.Low)) }

// fits returns a rational as a number, and whether that is valid.
func fits(r *big.Rat) (api.Num, bool) {
	limit := big.NewInt(most)
	if r.Num().CmpAbs(limit) > 0 || r.Denom().Cmp(limit) > 0 {
		return api.Num{}, false
	}
	return number(int(r.Num().Int64()), int(r.Denom().Int64())), true
}

func rats(l []api.Num) []*big.Rat {
	var out []*big.Rat
	for _, x := range l {
		out = append(out, rat(x))
	}
	return out
}

func nums(l []*big.Rat) ([]api.Num, bool) {
	var out []api.Num
	for _, r := range l {
		x, ok := fits(r)
		if !ok {
			return nil, false
		}
		out = append(out, x)
	}
	return out, true
}

func value(f api.Form, x []*big.Rat) *big.Rat {
	sum := big.NewRat(int64(f.Add), 1)
	for i, c := range f.Coef {
		sum.Add(sum, new(big.Rat).Mul(big.NewRat(int64(c), 1), x[i]))
	}
	return sum
}

func satisfies(p api.Poly, x []*big.Rat) bool {
	for _, c := range p.Conds {
		sign := value(c.Form, x).Sign()
		if sign < 0 || c.Eq && sign != 0 {
			return false
		}
	}
	return true
}

// wanted returns the state after a step and the error, by the definition.
func wanted(a api.Auto, s api.State, t api.Step) (api.State, api.Errno) {
	loc, x, is := s.Loc, rats(s.Point), true
	if t.Jump == -1 {
		is = t.Time.Top >= 0 && satisfies(a.Locs[loc].Flow, rats(t.Rates))
		for i := range x {
			x[i].Add(x[i], new(big.Rat).Mul(rat(t.Time), rat(t.Rates[i])))
		}
	} else {
		j := a.Jumps[t.Jump]
		is = t.Time == number(0, 1) && j.From == loc && satisfies(j.Guard, x)
		loc, x = j.To, assigned(j, x, rats(t.Guess))
	}
	if !is || !satisfies(a.Locs[loc].Inv, x) {
		return api.State{}, api.ErrStep
	}
	point, ok := nums(x)
	if !ok {
		return api.State{}, api.ErrFull
	}
	return state(loc, point...), api.OK
}

func assigned(j api.Jump, x, guess []*big.Rat) []*big.Rat {
	var out []*big.Rat
	for v, s := range j.Assign {
		switch s.Kind {
		case api.Keep:
			out = append(out, x[v])
		case api.Set:
			out = append(out, new(big.Rat).Quo(value(s.Form, x), big.NewRat(int64(s.Low), 1)))
		case api.Guess:
			out = append(out, guess[0])
			guess = guess[1:]
		}
	}
	return out
}

func initial(a api.Auto, s api.State) bool {
	x := rats(s.Point)
	return satisfies(a.Locs[s.Loc].Inv, x) && slices.ContainsFunc(a.Init, func(z api.Zone) bool {
		return z.Loc == s.Loc && satisfies(z.Set, x)
	})
}

// wantedStates is Follow by the definition.
func wantedStates(a api.Auto, r api.Run) ([]api.State, api.Errno) {
	if !initial(a, r.Start) {
		return nil, api.ErrKind
	}
	out := []api.State{r.Start}
	for _, t := range r.Steps {
		s, e := wanted(a, out[len(out)-1], t)
		if e != api.OK {
			return nil, e
		}
		out = append(out, s)
	}
	return out, api.OK
}

// sumOfTimes returns the sum of the first n Times.
func sumOfTimes(r api.Run, n int) *big.Rat {
	sum := new(big.Rat)
	for _, t := range r.Steps[:n] {
		sum.Add(sum, rat(t.Time))
	}
	return sum
}

// small returns a random number.
func small(random *rand.Rand) api.Num {
	x, _ := fits(big.NewRat(int64(random.Intn(13)-6), int64(1+random.Intn(3))))
	return x
}

func someNums(random *rand.Rand, n int) []api.Num {
	var out []api.Num
	for range n {
		out = append(out, small(random))
	}
	return out
}

func someForm(random *rand.Rand, n int) api.Form {
	f := api.Form{Coef: make([]int, n), Add: random.Intn(9)}
	for i := range f.Coef {
		f.Coef[i] = random.Intn(7) - 3
	}
	return f
}

// someSet returns a random polyhedron, which often contains many points.
func someSet(random *rand.Rand, n int) api.Poly {
	p := api.Poly{Dim: n}
	for range random.Intn(3) {
		p.Conds = append(p.Conds, api.Cond{Form: someForm(random, n), Eq: random.Intn(8) == 0})
	}
	return p
}

// box returns a random box that contains the point 0.
func box(random *rand.Rand, n int) api.Poly {
	p := api.Poly{Dim: n}
	for v := range n {
		low, high := api.Form{Coef: make([]int, n), Add: random.Intn(3)}, api.Form{Coef: make([]int, n), Add: random.Intn(3)}
		low.Coef[v], high.Coef[v] = 1, -1
		p.Conds = append(p.Conds, api.Cond{Form: low}, api.Cond{Form: high})
	}
	return p
}

func someAssign(random *rand.Rand, n int) api.Assign {
	switch random.Intn(4) {
	case 0:
		return api.Assign{Kind: api.Guess}
	case 1:
		return api.Assign{Kind: api.Keep}
	}
	return api.Assign{Kind: api.Set, Form: someForm(random, n), Low: 1 + random.Intn(3)}
}

// someAuto returns a random automaton.
func someAuto(random *rand.Rand) api.Auto {
	a := api.Auto{Dim: random.Intn(api.MaxVars)}
	for range 1 + random.Intn(3) {
		a.Locs = append(a.Locs, api.Loc{Inv: someSet(random, a.Dim), Flow: box(random, a.Dim)})
	}
	for range random.Intn(7) {
		j := api.Jump{From: random.Intn(len(a.Locs)), To: random.Intn(len(a.Locs)), Guard: someSet(random, a.Dim)}
		for range a.Dim {
			j.Assign = append(j.Assign, someAssign(random, a.Dim))
		}
		a.Jumps = append(a.Jumps, j)
	}
	for range 1 + random.Intn(3) {
		a.Init = append(a.Init, api.Zone{Loc: random.Intn(len(a.Locs)), Set: someSet(random, a.Dim)})
	}
	return a
}

// someStep returns a random step that is valid in form.
func someStep(random *rand.Rand, a api.Auto) api.Step {
	j := random.Intn(len(a.Jumps)+3) - 3
	if j < 0 {
		return delayed(number(random.Intn(4)*random.Intn(2), 1), halves(random, a.Dim)...)
	}
	return jumped(j, someNums(random, len(guessedBy(a.Jumps[j])))...)
}

// halves returns random numbers from -1 to 1.
func halves(random *rand.Rand, n int) []api.Num {
	var out []api.Num
	for range n {
		x, _ := fits(big.NewRat(int64(random.Intn(5)-2), 2))
		out = append(out, x)
	}
	return out
}

// someRun returns a random run, the steps of which are possible but perhaps for
// the last one.
func someRun(random *rand.Rand, a api.Auto) api.Run {
	r := runOf(state(random.Intn(len(a.Locs)), someNums(random, a.Dim)...))
	for range 20 {
		if initial(a, r.Start) {
			break
		}
		r.Start = state(random.Intn(len(a.Locs)), someNums(random, a.Dim)...)
	}
	s := r.Start
	for range random.Intn(60) {
		t := someStep(random, a)
		next, e := wanted(a, s, t)
		if e == api.OK {
			r.Steps = append(r.Steps, t)
			s = next
		}
	}
	if random.Intn(10) == 0 {
		r.Steps = append(r.Steps, someStep(random, a))
	}
	return r
}

// samples calls a test with many random automata and runs.
func samples(times int, test func(random *rand.Rand, a api.Auto, r api.Run)) {
	random := rand.New(rand.NewSource(11))
	for range times {
		a := someAuto(random)
		test(random, a, someRun(random, a))
	}
}

// badAutos returns automata that are not valid.
func badAutos() []api.Auto {
	free, label, dim := model(), model(), model()
	free.Locs[2].Flow = api.Poly{Dim: 2}
	label.Jumps[5].Label = 21
	dim.Dim = 1
	return []api.Auto{{}, free, label, dim}
}

// badStates returns states that are not valid for the model.
func badStates() []api.State {
	return []api.State{
		{}, state(-1, integers(5, 0)...), state(3, integers(5, 0)...), state(math.MaxInt, integers(5, 0)...), state(0, integers(5)...),
		state(0, integers(5, 0, 0)...), state(0, number(5, 1), number(0, 2)), state(0, number(5, 0), number(0, 1)), state(0, number(most+1, 1), number(0, 1)),
		state(0, number(5, 1), number(1, -1)),
	}
}

// badSteps returns steps that are not valid in form for the model.
func badSteps() []api.Step {
	one, bad := number(1, 1), number(2, 2)
	return []api.Step{
		jumped(-2), jumped(6), jumped(math.MaxInt), jumped(math.MinInt), {},
		delayed(one), delayed(one, one), delayed(one, one, one, one), delayed(bad, one, one), delayed(one, one, bad),
		delayed(number(1, 0), one, one), delayed(one, number(most+1, 1), one), {Jump: -1, Time: one, Rates: []api.Num{one, one}, Guess: []api.Num{one}},
		jumped(0, one), jumped(1), jumped(1, one, one), jumped(3, one), jumped(3, one, one, one), jumped(1, bad), jumped(3, one, number(1, -1)),
		{Jump: 0, Time: bad}, {Jump: 0}, {Jump: 0, Time: number(0, 1), Rates: []api.Num{one, one}}, {Jump: 1, Time: number(0, 1), Rates: []api.Num{one}, Guess: []api.Num{one}},
	}
}
