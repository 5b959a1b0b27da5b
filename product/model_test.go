package product

import (
	"math/big"
	"math/rand"
	"slices"

	"floodmark/api"
	"floodmark/auto"
	"floodmark/run"
)

const most = api.MaxNum

func number(top, low int) api.Num { return api.Num{Top: top, Low: low} }

func integers(l ...int) []api.Num {
	var out []api.Num
	for _, x := range l {
		out = append(out, number(x, 1))
	}
	return out
}

func state(loc int, x ...api.Num) api.State { return api.State{Loc: loc, Point: x} }

func delayed(time api.Num, rates ...api.Num) api.Step {
	return api.Step{Jump: -1, Time: time, Rates: rates}
}

func jumped(j int, guess ...api.Num) api.Step {
	return api.Step{Jump: j, Time: number(0, 1), Guess: guess}
}

func runOf(s api.State, steps ...api.Step) api.Run { return api.Run{Start: s, Steps: steps} }

func read(names []string, text string) api.Auto {
	a, e := auto.Parse(names, text)
	if e != api.OK {
		panic(text)
	}
	return a
}

// tank is the tank of the document, with labels.
func tank() api.Auto {
	return read([]string{"x"}, `auto 1
loc -x + 10 >= 0 | x - 1 >= 0, -x + 2 >= 0
loc x >= 0 | x + 1 = 0
jump 0 1 4 | x - 8 >= 0
jump 1 0 2 | -x + 2 >= 0
init 0 | x - 5 = 0
init 1 | x = 9
`)
}

// watch has a clock y that the jumps with the labels of the tank set back, and
// a guess z.
func watch() api.Auto {
	return read([]string{"y", "z"}, `auto 2
loc y <= 100, z >= 0 | y = 1, z >= -1, z <= 1
loc y >= 0 | y = 1, z = 0
loc true | y = 0, z = 0
jump 0 1 4 | y >= 1 | y := 0
jump 1 1 2 | y >= 1 | y := y + z / 2 | z := ?
jump 1 0 2 | true | y := 0
jump 0 2 0 | z <= 5 | y := ? | z := ?
jump 2 0 20 | true | z := z + 1
jump 1 2 4 | true
init 0 | y = 0, z >= 1
`)
}

func small(random *rand.Rand) int { return random.Intn(5) - 2 }

func someForm(random *rand.Rand, n int) api.Form {
	f := api.Form{Coef: make([]int, n), Add: random.Intn(7)}
	for i := range f.Coef {
		f.Coef[i] = small(random)
	}
	return f
}

func someSet(random *rand.Rand, n int) api.Poly {
	p := api.Poly{Dim: n}
	for range random.Intn(3) * random.Intn(2) {
		p.Conds = append(p.Conds, api.Cond{Form: someForm(random, n), Eq: random.Intn(8) == 0})
	}
	return p
}

func box(random *rand.Rand, n int) api.Poly {
	p := api.Poly{Dim: n}
	for v := range n {
		low, high := api.Form{Coef: make([]int, n), Add: random.Intn(2)}, api.Form{Coef: make([]int, n), Add: random.Intn(3)}
		low.Coef[v], high.Coef[v] = 1, -1
		p.Conds = append(p.Conds, api.Cond{Form: low}, api.Cond{Form: high})
	}
	return p
}

func someAssign(random *rand.Rand, n int) api.Assign {
	switch random.Intn(4) {
	case 0:
		return api.Assign{Kind: api.Guess}
	case 1:
		return api.Assign{Kind: api.Set, Form: someForm(random, n), Low: 1 + random.Intn(3)}
	}
	return api.Assign{}
}

// someAuto returns a random automaton with few labels.
func someAuto(random *rand.Rand) api.Auto {
	a := api.Auto{Dim: random.Intn(3)}
	for range 1 + random.Intn(3) {
		a.Locs = append(a.Locs, api.Loc{Inv: someSet(random, a.Dim), Flow: box(random, a.Dim)})
	}
	for range random.Intn(6) {
		j := api.Jump{From: random.Intn(len(a.Locs)), To: random.Intn(len(a.Locs)), Label: random.Intn(4), Guard: someSet(random, a.Dim)}
		for range a.Dim {
			j.Assign = append(j.Assign, someAssign(random, a.Dim))
		}
		a.Jumps = append(a.Jumps, j)
	}
	for range 1 + random.Intn(2) {
		a.Init = append(a.Init, api.Zone{Loc: random.Intn(len(a.Locs)), Set: someSet(random, a.Dim)})
	}
	return a
}

func someShared(random *rand.Rand) []int {
	lists := [][]int{nil, {1}, {2}, {1, 2}, {1, 2, 3}, {3, 20}, {19}}
	return lists[random.Intn(len(lists))]
}

func somePoint(random *rand.Rand, n int) []api.Num {
	return integers(ints(random, n)...)
}

func ints(random *rand.Rand, n int) []int {
	var out []int
	for range n {
		out = append(out, small(random))
	}
	return out
}

func ratio(top, low int) api.Num {
	r := big.NewRat(int64(top), int64(low))
	return number(int(r.Num().Int64()), int(r.Denom().Int64()))
}

// someStep returns a random step, which is often possible in s.
func someStep(random *rand.Rand, a api.Auto, s api.State) api.Step {
	if l, _ := run.Enabled(a, s); len(l) > 0 && random.Intn(2) == 0 {
		j := l[random.Intn(len(l))]
		g, _ := run.Guess(a, s, j)
		if random.Intn(2) == 0 {
			g = somePoint(random, len(g))
		}
		return jumped(j, g...)
	}
	t := delayed(ratio(random.Intn(4), 1+random.Intn(3)))
	for range a.Dim {
		t.Rates = append(t.Rates, ratio(random.Intn(7)-2, 2))
	}
	return t
}

// someRun returns a random run, which is possible if there are initial states
// that are easily found.
func someRun(random *rand.Rand, a api.Auto) api.Run {
	r := runOf(state(random.Intn(len(a.Locs)), somePoint(random, a.Dim)...))
	for range 20 {
		if is, _ := auto.Initial(a, r.Start); is {
			break
		}
		r.Start = state(random.Intn(len(a.Locs)), somePoint(random, a.Dim)...)
	}
	s := r.Start
	for range random.Intn(25) {
		t := someStep(random, a, s)
		next, e := run.Step(a, s, t)
		if e == api.OK {
			r.Steps = append(r.Steps, t)
			s = next
		}
	}
	return r
}

// samples calls a test with many random pairs of automata that have a product.
func samples(times int, test func(random *rand.Rand, a, b api.Auto, shared []int)) {
	random := rand.New(rand.NewSource(12))
	for range times {
		a, b, shared := someAuto(random), someAuto(random), someShared(random)
		if _, e := wanted(a, b, shared); e == api.OK {
			test(random, a, b, shared)
		}
	}
}

// before and behind extend forms by n coefficients.
func before(n int, f api.Form) api.Form {
	return api.Form{Coef: append(make([]int, n), f.Coef...), Add: f.Add}
}

func behind(f api.Form, n int) api.Form {
	return api.Form{Coef: append(slices.Clone(f.Coef), make([]int, n)...), Add: f.Add}
}

func meet(p, q api.Poly) api.Poly {
	out := api.Poly{Dim: p.Dim + q.Dim}
	for _, c := range p.Conds {
		out.Conds = append(out.Conds, api.Cond{Form: behind(c.Form, q.Dim), Eq: c.Eq})
	}
	for _, c := range q.Conds {
		out.Conds = append(out.Conds, api.Cond{Form: before(p.Dim, c.Form), Eq: c.Eq})
	}
	return out
}

func keeps(n int) []api.Assign { return make([]api.Assign, n) }

// wantedJumps returns the jumps of the product by the definition, and their
// partial jumps.
func wantedJumps(a, b api.Auto, shared []int) ([]api.Jump, [][2]int) {
	var jumps []api.Jump
	var parts [][2]int
	left, right := func(l []api.Assign) []api.Assign {
		var out []api.Assign
		for _, s := range l {
			if s.Kind == api.Set {
				s.Form = behind(s.Form, b.Dim)
			}
			out = append(out, s)
		}
		return out
	}, func(l []api.Assign) []api.Assign {
		var out []api.Assign
		for _, s := range l {
			if s.Kind == api.Set {
				s.Form = before(a.Dim, s.Form)
			}
			out = append(out, s)
		}
		return out
	}
	n := len(b.Locs)
	for i, j := range a.Jumps {
		for l := range b.Locs {
			if !slices.Contains(shared, j.Label) {
				jumps = append(jumps, api.Jump{From: j.From*n + l, To: j.To*n + l, Label: j.Label, Guard: meet(j.Guard, api.Poly{Dim: b.Dim}), Assign: append(left(j.Assign), keeps(b.Dim)...)})
				parts = append(parts, [2]int{i, -1})
			}
		}
	}
	for i, j := range b.Jumps {
		for l := range a.Locs {
			if !slices.Contains(shared, j.Label) {
				jumps = append(jumps, api.Jump{From: l*n + j.From, To: l*n + j.To, Label: j.Label, Guard: meet(api.Poly{Dim: a.Dim}, j.Guard), Assign: append(keeps(a.Dim), right(j.Assign)...)})
				parts = append(parts, [2]int{-1, i})
			}
		}
	}
	for i, j := range a.Jumps {
		for k, m := range b.Jumps {
			if slices.Contains(shared, j.Label) && j.Label == m.Label {
				jumps = append(jumps, api.Jump{From: j.From*n + m.From, To: j.To*n + m.To, Label: j.Label, Guard: meet(j.Guard, m.Guard), Assign: append(left(j.Assign), right(m.Assign)...)})
				parts = append(parts, [2]int{i, k})
			}
		}
	}
	return jumps, parts
}

// wanted returns the product by the definition.
func wanted(a, b api.Auto, shared []int) (api.Auto, api.Errno) {
	out := api.Auto{Dim: a.Dim + b.Dim}
	for _, l := range a.Locs {
		for _, m := range b.Locs {
			out.Locs = append(out.Locs, api.Loc{Inv: meet(l.Inv, m.Inv), Flow: meet(l.Flow, m.Flow)})
		}
	}
	out.Jumps, _ = wantedJumps(a, b, shared)
	for _, y := range a.Init {
		for _, z := range b.Init {
			out.Init = append(out.Init, api.Zone{Loc: y.Loc*len(b.Locs) + z.Loc, Set: meet(y.Set, z.Set)})
		}
	}
	if !auto.Valid(out) {
		return api.Auto{}, api.ErrFull
	}
	return out, api.OK
}

func same(s, t api.State) bool { return s.Loc == t.Loc && slices.Equal(s.Point, t.Point) }

func rat(a api.Num) *big.Rat { return big.NewRat(int64(a.Top), int64(a.Low)) }

// sumOfTimes returns the sum of the first n Times.
func sumOfTimes(r api.Run, n int) *big.Rat {
	sum := new(big.Rat)
	for _, t := range r.Steps[:n] {
		sum.Add(sum, rat(t.Time))
	}
	return sum
}

// happening is a jump of a run, with the state after it.
type happening struct {
	jump  int
	label int
	time  string
	guess []api.Num
	after api.State
}

func happenings(a api.Auto, r api.Run) []happening {
	l, _ := run.Follow(a, r)
	var out []happening
	for i, t := range r.Steps {
		if t.Jump >= 0 {
			out = append(out, happening{t.Jump, a.Jumps[t.Jump].Label, sumOfTimes(r, i).String(), t.Guess, l[i+1]})
		}
	}
	return out
}

// matching is Match by the definition, for possible runs.
func matching(a, b api.Auto, shared []int, r, s api.Run) bool {
	events := func(a api.Auto, r api.Run) []string {
		out := []string{sumOfTimes(r, len(r.Steps)).String()}
		for _, h := range happenings(a, r) {
			if slices.Contains(shared, h.label) {
				out = append(out, h.time, big.NewInt(int64(h.label)).String())
			}
		}
		return out
	}
	return slices.Equal(events(a, r), events(b, s))
}
