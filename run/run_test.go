package run

import (
	"math/big"
	"math/rand"
	"reflect"
	"slices"
	"testing"

	"floodmark/api"
	"floodmark/auto"
	"floodmark/poly"
	"floodmark/proj"
)

// P11.1
func TestStep(t *testing.T) {
	a, half := model(), number(1, 2)
	for i, c := range []struct {
		s    api.State
		t    api.Step
		want api.State
		e    api.Errno
	}{
		{state(0, integers(5, 0)...), delayed(number(2, 1), number(3, 2), number(0, 1)), state(0, integers(8, 0)...), api.OK},
		{state(0, integers(5, 0)...), delayed(half, number(4, 3), number(2, 3)), state(0, number(17, 3), number(1, 3)), api.OK},
		{state(0, integers(5, 0)...), delayed(number(5, 2), integers(2, 0)...), state(0, integers(10, 0)...), api.OK},
		{state(0, integers(5, 0)...), delayed(number(0, 1), integers(2, 1)...), state(0, integers(5, 0)...), api.OK},
		{state(0, integers(5, 0)...), delayed(number(3, 1), integers(2, 0)...), api.State{}, api.ErrStep},   // leaves the invariant
		{state(0, integers(5, 0)...), delayed(number(1, 1), integers(3, 0)...), api.State{}, api.ErrStep},   // not in the flow
		{state(0, integers(5, 0)...), delayed(number(0, 1), integers(3, 0)...), api.State{}, api.ErrStep},   // nor is it then
		{state(0, integers(5, 0)...), delayed(number(-1, 1), integers(1, 0)...), api.State{}, api.ErrStep},  // no time
		{state(0, integers(11, 0)...), delayed(number(1, 1), integers(1, 0)...), api.State{}, api.ErrKind},  // not allowed
		{state(0, integers(11, 0)...), delayed(number(-1, 1), integers(1, 0)...), api.State{}, api.ErrKind}, // and not possible
		{state(0, integers(5, -1)...), jumped(0), api.State{}, api.ErrKind},
		{state(0, integers(9, 1)...), jumped(0), state(1, number(27, 2), number(1, 1)), api.OK},
		{state(0, number(17, 2), number(1, 3)), jumped(0), state(1, number(157, 12), number(1, 3)), api.OK},
		{state(0, integers(8, 0)...), jumped(0), state(1, number(25, 2), number(0, 1)), api.OK},
		{state(0, number(15, 2), number(1, 1)), jumped(0), api.State{}, api.ErrStep},                                                              // not in the guard
		{state(1, integers(9, 1)...), jumped(0), api.State{}, api.ErrStep},                                                                        // another location
		{state(0, integers(9, 1)...), api.Step{Jump: 0, Time: number(1, 1)}, api.State{}, api.ErrStep},                                            // a jump takes no time
		{state(1, integers(9, 1)...), jumped(1, number(-7, 3)), state(1, number(-7, 3), number(0, 1)), api.OK},                                    // the guess is the first variable
		{state(1, integers(9, 1)...), jumped(3, integers(4, 5)...), state(2, integers(4, 5)...), api.OK},                                          // both, in their order
		{state(1, integers(9, 1)...), jumped(3, integers(25, 4)...), api.State{}, api.ErrStep},                                                    // not allowed there
		{state(1, integers(9, 1)...), jumped(4), state(0, integers(1, 9)...), api.OK},                                                             // values of the old point
		{state(1, integers(-1, 1)...), jumped(4), api.State{}, api.ErrStep},                                                                       // not allowed there
		{state(1, integers(3, 4)...), jumped(2), state(0, integers(3, 4)...), api.OK},                                                             // keeps
		{state(0, integers(2, 0)...), jumped(5, number(1, 3)), state(2, number(20, 1), number(1, 3)), api.OK},                                     // the guess is the second variable
		{state(0, integers(2, 0)...), jumped(5, number(-1, most)), api.State{}, api.ErrStep},                                                      // just outside
		{state(2, integers(0, 0)...), delayed(number(1, 1), number(1, 1), number(-1, 1)), state(2, integers(1, -1)...), api.OK},                   // along the invariant
		{state(2, integers(0, 0)...), delayed(number(1, most), number(1, 1), number(-1, 1)), state(2, number(1, most), number(-1, most)), api.OK}, // for a short time
	} {
		if s, e := Step(a, c.s, c.t); !reflect.DeepEqual(s, c.want) || e != c.e {
			t.Errorf("%d: Step(%v, %v): %v, %d", i, c.s, c.t, s, e)
		}
	}
	for j, want := range []api.Errno{api.ErrStep, api.OK, api.ErrStep} {
		if s, e := Step(still(), state(0), jumped(j)); !same(s, state(0)) && !same(s, state(1)) || e != want {
			t.Errorf("without variables: %v, %d", s, e)
		}
	}
	if s, e := Step(still(), state(0), delayed(number(7, 2))); !same(s, state(0)) || e != api.OK {
		t.Errorf("without variables: %v, %d", s, e)
	}
	if s, e := Step(still(), state(1), delayed(number(7, 2))); !same(s, state(0)) || e != api.ErrKind {
		t.Errorf("without variables: %v, %d", s, e)
	}
}

// P11.1
func TestSteps(t *testing.T) {
	counts := map[api.Errno]int{}
	samples(3000, func(random *rand.Rand, a api.Auto, r api.Run) {
		s, u := state(random.Intn(len(a.Locs)), someNums(random, a.Dim)...), someStep(random, a)
		if random.Intn(20) == 0 {
			u.Time = small(random)
		}
		want, e := wanted(a, s, u)
		if !satisfies(a.Locs[s.Loc].Inv, rats(s.Point)) {
			want, e = api.State{}, api.ErrKind
		}
		if got, f := Step(a, s, u); !same(got, want) || e != f {
			t.Fatalf("Step(%v, %v, %v): %v, %d, not %v, %d", a, s, u, got, f, want, e)
		}
		counts[e]++
	})
	if len(counts) != 3 || counts[api.OK] < 500 || counts[api.ErrStep] < 500 || counts[api.ErrKind] < 300 {
		t.Errorf("the samples are too much alike: %v", counts)
	}
}

func same(s, t api.State) bool { return s.Loc == t.Loc && slices.Equal(s.Point, t.Point) }

// P11.2
func TestFollow(t *testing.T) {
	a, five := model(), state(0, integers(5, 0)...)
	on, over := delayed(number(2, 1), number(3, 2), number(0, 1)), delayed(number(3, 1), integers(2, 0)...)
	for i, c := range []struct {
		r    api.Run
		want []api.State
		e    api.Errno
	}{
		{runOf(five), []api.State{five}, api.OK},
		{runOf(five, on), []api.State{five, state(0, integers(8, 0)...)}, api.OK},
		{runOf(five, on, jumped(0), jumped(1, number(9, 1))), []api.State{five, state(0, integers(8, 0)...), state(1, number(25, 2), number(0, 1)), state(1, integers(9, 0)...)}, api.OK},
		{runOf(five, over), nil, api.ErrStep},
		{runOf(five, on, jumped(0), jumped(0)), nil, api.ErrStep},
		{runOf(five, over, on), nil, api.ErrStep},
		{runOf(state(0, integers(5, -1)...)), nil, api.ErrKind},      // in an initial set only
		{runOf(state(0, integers(6, 0)...)), nil, api.ErrKind},       // allowed only
		{runOf(state(0, integers(6, 0)...), over), nil, api.ErrKind}, // and then not possible
		{runOf(state(1, integers(5, 0)...)), nil, api.ErrKind},       // the set of another location
		{runOf(state(1, integers(0, -9)...)), []api.State{state(1, integers(0, -9)...)}, api.OK},
	} {
		if l, e := Follow(a, c.r); !slices.EqualFunc(l, c.want, same) || e != c.e {
			t.Errorf("%d: Follow of %v: %v, %d", i, c.r, l, e)
		}
	}
	counts := map[api.Errno]int{}
	samples(1500, func(random *rand.Rand, a api.Auto, r api.Run) {
		want, e := wantedStates(a, r)
		if l, f := Follow(a, r); !slices.EqualFunc(l, want, same) || e != f {
			t.Fatalf("Follow(%v, %v): %v, %d, not %v, %d", a, r, l, f, want, e)
		}
		counts[e]++
	})
	if counts[api.OK] < 500 || counts[api.ErrStep] < 50 || counts[api.ErrKind] < 50 {
		t.Errorf("the samples are too much alike: %v", counts)
	}
}

// P11.3
func TestSums(t *testing.T) {
	a := tank()
	r := runOf(state(0, integers(5)...), delayed(number(2, 1), number(3, 2)), jumped(0))
	if s, e := Last(a, r); !same(s, state(1, integers(8)...)) || e != api.OK {
		t.Errorf("Last: %v, %d", s, e)
	}
	if d, e := Duration(a, runOf(r.Start)); d != number(0, 1) || e != api.OK {
		t.Errorf("Duration: %v, %d", d, e)
	}
	if n, e := Jumps(a, runOf(r.Start, r.Steps[0])); n != 0 || e != api.OK {
		t.Errorf("Jumps: %d, %d", n, e)
	}
	samples(1000, func(random *rand.Rand, a api.Auto, r api.Run) {
		l, e := wantedStates(a, r)
		var last api.State
		var duration api.Num
		jumps := 0
		if e == api.OK {
			last = l[len(l)-1]
			duration, _ = fits(sumOfTimes(r, len(r.Steps)))
			for _, t := range r.Steps {
				jumps += min(t.Jump+1, 1)
			}
		}
		if s, f := Last(a, r); !same(s, last) || e != f {
			t.Fatalf("Last(%v, %v): %v, %d", a, r, s, f)
		}
		if d, f := Duration(a, r); d != duration || e != f {
			t.Fatalf("Duration(%v, %v): %v, %d", a, r, d, f)
		}
		if n, f := Jumps(a, r); n != jumps || e != f {
			t.Fatalf("Jumps(%v, %v): %d, %d", a, r, n, f)
		}
	})
}

// possible reports whether a jump is possible in s with some numbers for Guess.
func possible(a api.Auto, s api.State, j api.Jump) bool {
	x := rats(s.Point)
	if j.From != s.Loc || !satisfies(j.Guard, x) {
		return false
	}
	zeros := make([]*big.Rat, a.Dim)
	for i := range zeros {
		zeros[i] = new(big.Rat)
	}
	y := assigned(j, x, zeros)
	p := a.Locs[j.To].Inv
	for v := a.Dim - 1; v >= 0; v-- {
		if j.Assign[v].Kind != api.Guess {
			z, _ := fits(y[v])
			p, _ = proj.Fix(p, v, z)
		}
	}
	empty, _ := poly.Empty(p)
	return !empty
}

// P11.4, P11.5, P11.11
func TestGuesses(t *testing.T) {
	enabled, none := 0, 0
	samples(2000, func(random *rand.Rand, a api.Auto, r api.Run) {
		s := state(random.Intn(len(a.Locs)), someNums(random, a.Dim)...)
		l, e := Enabled(a, s)
		if !satisfies(a.Locs[s.Loc].Inv, rats(s.Point)) {
			if g, f := Guess(a, s, random.Intn(9)-4); len(l) != 0 || e != api.ErrKind || len(g) != 0 || f != api.ErrKind {
				t.Fatalf("%v, %v is not allowed: %v, %d, %v, %d", a, s, l, e, g, f)
			}
			return
		}
		var want []int
		for j := range a.Jumps {
			g, f := Guess(a, s, j)
			if !possible(a, s, a.Jumps[j]) {
				if len(g) != 0 || f != api.ErrNone {
					t.Fatalf("Guess(%v, %v, %d): %v, %d", a, s, j, g, f)
				}
				none++
				continue
			}
			enabled++
			want = append(want, j)
			if _, e := Step(a, s, jumped(j, g...)); f != api.OK || e != api.OK {
				t.Fatalf("Guess(%v, %v, %d): %v, %d; then the step: %d", a, s, j, g, f, e)
			}
		}
		if !slices.Equal(l, want) || e != api.OK {
			t.Fatalf("Enabled(%v, %v): %v, %d, not %v", a, s, l, e, want)
		}
	})
	if enabled < 500 || none < 500 {
		t.Errorf("the samples are too much alike: %d, %d", enabled, none)
	}
}

// P11.4, P11.5
func TestGuessExamples(t *testing.T) {
	a := model()
	for i, c := range []struct {
		s    api.State
		want []int
		e    api.Errno
	}{
		{state(0, integers(8, 0)...), []int{0}, api.OK}, // 10 x is too much for jump 5, whatever y is
		{state(0, integers(1, 0)...), []int{5}, api.OK},
		{state(0, integers(1, 1)...), nil, api.OK},
		{state(1, integers(3, 4)...), []int{1, 2, 3, 4}, api.OK},
		{state(1, integers(11, 4)...), []int{1, 3, 4}, api.OK},
		{state(1, integers(2, -1)...), []int{1, 3}, api.OK},
		{state(2, integers(2, -1)...), nil, api.OK},
		{state(0, integers(11, 0)...), nil, api.ErrKind},
	} {
		a.Locs[2].Inv = read([]string{"x", "y"}, "auto 2\nloc x + y >= 0, x <= 20 | x = 0, y = 0\n").Locs[0].Inv
		if l, e := Enabled(a, c.s); !slices.Equal(l, c.want) || e != c.e {
			t.Errorf("%d: Enabled of %v: %v, %d", i, c.s, l, e)
		}
	}
	if l, e := Enabled(still(), state(0)); !slices.Equal(l, []int{1}) || e != api.OK {
		t.Errorf("without variables: %v, %d", l, e)
	}
	s := state(0, integers(8, 0)...)
	if l, e := Guess(a, s, 0); len(l) != 0 || e != api.OK {
		t.Errorf("nothing to guess: %v, %d", l, e)
	}
	for j, want := range map[int]api.Errno{-1: api.ErrRange, 6: api.ErrRange, 1: api.ErrNone, 5: api.ErrNone} {
		if l, e := Guess(a, s, j); len(l) != 0 || e != want {
			t.Errorf("Guess of %d: %v, %d", j, l, e)
		}
	}
	if l, e := Guess(a, state(0, integers(11, 0)...), 6); len(l) != 0 || e != api.ErrKind {
		t.Errorf("Guess: %v, %d", l, e)
	}
}

// P11.4, P11.5: an assigned number that is too large matters only if the jump
// is possible, also with a guess that is too large.
func TestGuessFull(t *testing.T) {
	names := []string{"x", "y"}
	flow := " | x = 0, y = 0\n"
	for i, c := range []struct {
		inv, assign string
		enabled     api.Errno
		is          bool
		guess       api.Errno
	}{
		{"true", "x := 2 x | y := ?", api.ErrFull, false, api.ErrFull},
		{"x <= 5", "x := 2 x | y := ?", api.OK, false, api.ErrNone},
		{"y >= x", "x := 2 x | y := ?", api.ErrFull, false, api.ErrFull},
		{"x = 2 y", "x := 2 x | y := ?", api.ErrFull, false, api.ErrFull},
		{"y = 2 x", "y := ?", api.OK, true, api.ErrFull},
		{"2 y = x", "y := ?", api.OK, true, api.OK},
		{"x <= 2 y", "y := ?", api.OK, true, api.OK},
		{"y = 2 x, y <= 7", "y := ?", api.OK, false, api.ErrNone},
		{"true", "x := x / 1152921504606846976 | y := x / 1152921504606846975", api.OK, true, api.OK},
		{"true", "y := 1152921504606846976 x + 1", api.ErrFull, false, api.ErrFull},
		{"true", "x := y / 1152921504606846976 | y := y / 2", api.ErrFull, false, api.ErrFull},
	} {
		a := read(names, "auto 2\nloc true"+flow+"loc "+c.inv+flow+"jump 0 1 0 | true | "+c.assign+"\njump 0 0 0 | true\n")
		s := state(0, number(most, 1), number(1, 3))
		want := []int{0, 1}
		if !c.is {
			want = want[1:]
		}
		if c.enabled != api.OK {
			want = nil
		}
		if l, e := Enabled(a, s); !slices.Equal(l, want) || e != c.enabled {
			t.Errorf("%d: Enabled: %v, %d", i, l, e)
		}
		g, e := Guess(a, s, 0)
		if e != c.guess {
			t.Errorf("%d: Guess: %v, %d", i, g, e)
		}
		if e == api.OK {
			if _, e := Step(a, s, jumped(0, g...)); e != api.OK {
				t.Errorf("%d: then the step: %d", i, e)
			}
		}
		if g, e := Guess(a, s, 1); len(g) != 0 || e != api.OK {
			t.Errorf("%d: Guess of the other jump: %v, %d", i, g, e)
		}
	}
}

// P11.5: what must not exceed the limits.
func TestGuessLimits(t *testing.T) {
	random := rand.New(rand.NewSource(5))
	hundred := func() int { return random.Intn(201) - 100 }
	form := func(n int) api.Form {
		f := api.Form{Coef: make([]int, n), Add: hundred()}
		for i := range f.Coef {
			f.Coef[i] = hundred()
		}
		return f
	}
	found := 0
	for range 2000 {
		n := 1 + random.Intn(2)
		inv := api.Poly{Dim: n}
		for range random.Intn(11) {
			inv.Conds = append(inv.Conds, api.Cond{Form: form(n), Eq: random.Intn(9) == 0})
		}
		j := api.Jump{To: 1, Guard: api.Poly{Dim: n}}
		for range n {
			assign := []api.Assign{{Kind: api.Guess}, {Kind: api.Guess}, {Kind: api.Keep}, {Kind: api.Set, Form: form(n), Low: 1 + random.Intn(10)}}
			j.Assign = append(j.Assign, assign[random.Intn(4)])
		}
		all := api.Loc{Inv: api.Poly{Dim: n}, Flow: box(random, n)}
		a := api.Auto{Dim: n, Locs: []api.Loc{all, {Inv: inv, Flow: all.Flow}}, Jumps: []api.Jump{j}}
		s := state(0)
		for range n {
			x, _ := fits(big.NewRat(int64(hundred()), int64(1+random.Intn(10))))
			s.Point = append(s.Point, x)
		}
		l, e := Guess(a, s, 0)
		if e == api.OK {
			found++
			_, e = Step(a, s, jumped(0, l...))
		} else if !possible(a, s, j) && e == api.ErrNone {
			e = api.OK
		}
		if e != api.OK {
			t.Fatalf("Guess(%v, %v): %v, %d", a, s, l, e)
		}
	}
	if found < 300 {
		t.Errorf("the samples are too much alike: %d", found)
	}
}

// wantedAt is At by the definition, for a possible run.
func wantedAt(r api.Run, l []api.State, at *big.Rat) []api.State {
	var out []api.State
	for i, s := range l {
		if sumOfTimes(r, i).Cmp(at) == 0 && (len(out) == 0 || !same(out[len(out)-1], s)) {
			out = append(out, s)
		}
	}
	for i := range r.Steps {
		from, to := sumOfTimes(r, i), sumOfTimes(r, i+1)
		if from.Cmp(at) < 0 && at.Cmp(to) < 0 {
			x := rats(l[i].Point)
			for k, y := range x {
				y.Add(y, from.Sub(at, from).Mul(from, rat(r.Steps[i].Rates[k])))
				from = sumOfTimes(r, i)
			}
			point, _ := nums(x)
			out = append(out, state(l[i].Loc, point...))
		}
	}
	return out
}

// P11.6, P11.9
func TestAt(t *testing.T) {
	several := 0
	samples(1500, func(random *rand.Rand, a api.Auto, r api.Run) {
		at, _ := fits(big.NewRat(int64(random.Intn(20)-1), int64(1+random.Intn(4))))
		if random.Intn(2) == 0 {
			at, _ = fits(sumOfTimes(r, random.Intn(len(r.Steps)+1)))
		}
		l, e := wantedStates(a, r)
		var want []api.State
		if e == api.OK && (rat(at).Sign() < 0 || rat(at).Cmp(sumOfTimes(r, len(r.Steps))) > 0) {
			e = api.ErrRange
		}
		if e == api.OK {
			want = wantedAt(r, l, rat(at))
		}
		got, f := At(a, r, at)
		if !slices.EqualFunc(got, want, same) || e != f {
			t.Fatalf("At(%v, %v, %v): %v, %d, not %v, %d", a, r, at, got, f, want, e)
		}
		for _, s := range got {
			if is, e := auto.Allowed(a, s); !is || e != api.OK {
				t.Fatalf("At(%v, %v, %v): %v is not allowed", a, r, at, s)
			}
		}
		several += min(len(got)/2, 1)
	})
	if several < 50 {
		t.Errorf("the samples are too much alike: %d", several)
	}
}

// P11.6
func TestAtExamples(t *testing.T) {
	a := model()
	zero := func() api.Step { return delayed(number(0, 1), integers(0, 0)...) }
	on := delayed(number(3, 2), integers(0, 0)...)
	r := runOf(state(1, integers(0, 3)...), zero(), jumped(1, number(7, 1)), jumped(1, number(7, 1)), zero(), on, zero(), jumped(1, number(8, 1)), jumped(1, number(7, 1)), on, jumped(3, integers(7, 0)...))
	one, two, three, four := state(1, integers(0, 3)...), state(1, integers(7, 0)...), state(1, integers(8, 0)...), state(2, integers(7, 0)...)
	for _, c := range []struct {
		at   api.Num
		want []api.State
		e    api.Errno
	}{
		{number(0, 1), []api.State{one, two}, api.OK},
		{number(1, most), []api.State{two}, api.OK},
		{number(1, 1), []api.State{two}, api.OK},
		{number(3, 2), []api.State{two, three, two}, api.OK},
		{number(2, 1), []api.State{two}, api.OK},
		{number(3, 1), []api.State{two, four}, api.OK},
		{number(7, 2), nil, api.ErrRange},
		{number(most, 1), nil, api.ErrRange},
		{number(-1, most), nil, api.ErrRange},
		{number(0, 2), nil, api.ErrArg},
		{number(0, 0), nil, api.ErrArg},
	} {
		if l, e := At(a, r, c.at); !slices.EqualFunc(l, c.want, same) || e != c.e {
			t.Errorf("At %v: %v, %d", c.at, l, e)
		}
	}
	if l, e := At(a, runOf(one), number(0, 1)); !slices.EqualFunc(l, []api.State{one}, same) || e != api.OK {
		t.Errorf("At of a run without steps: %v, %d", l, e)
	}
}

// P11.7
func TestAppend(t *testing.T) {
	counts := map[api.Errno]int{}
	samples(1500, func(random *rand.Rand, a api.Auto, r api.Run) {
		u := someStep(random, a)
		l, e := wantedStates(a, r)
		want := api.Run{}
		if e == api.OK {
			_, e = wanted(a, l[len(l)-1], u)
		}
		if e == api.OK {
			want = runOf(r.Start, slices.Concat(r.Steps, []api.Step{u})...)
		}
		if got, f := Append(a, r, u); !reflect.DeepEqual(bare(got), bare(want)) || e != f {
			t.Fatalf("Append(%v, %v, %v): %v, %d, not %v, %d", a, r, u, got, f, want, e)
		}
		counts[e]++
	})
	if counts[api.OK] < 300 || counts[api.ErrStep] < 300 {
		t.Errorf("the samples are too much alike: %v", counts)
	}
	a, on := tank(), delayed(number(1, 20), number(1, 1))
	r := runOf(state(0, integers(5)...), slices.Repeat([]api.Step{on}, api.MaxSteps)...)
	if got, e := Append(a, r, on); !reflect.DeepEqual(got, api.Run{}) || e != api.ErrFull {
		t.Errorf("Append to a full run: %v, %d", got, e)
	}
	if got, e := Append(a, r, jumped(1)); !reflect.DeepEqual(got, api.Run{}) || e != api.ErrFull {
		t.Errorf("Append of a step that is not possible to a full run: %v, %d", got, e)
	}
	r.Steps = r.Steps[1:]
	if got, e := Append(a, r, on); len(got.Steps) != api.MaxSteps || e != api.OK {
		t.Errorf("Append to a run that is not full: %v, %d", got, e)
	}
	r.Steps[3] = jumped(0)
	if got, e := Append(a, r, on); !reflect.DeepEqual(got, api.Run{}) || e != api.ErrStep {
		t.Errorf("Append to a run that is not possible: %v, %d", got, e)
	}
}

// bare returns the run with nil for empty lists.
func bare(r api.Run) api.Run {
	out := runOf(state(r.Start.Loc, slices.Concat(r.Start.Point)...))
	for _, t := range r.Steps {
		t.Rates, t.Guess = slices.Concat(t.Rates), slices.Concat(t.Guess)
		out.Steps = append(out.Steps, t)
	}
	return out
}

// wantedNormal is Normal by the definition, for a possible run.
func wantedNormal(a api.Auto, r api.Run) api.Run {
	out := runOf(r.Start)
	for i := 0; i < len(r.Steps); i++ {
		if r.Steps[i].Jump >= 0 {
			out.Steps = append(out.Steps, r.Steps[i])
			continue
		}
		from := i
		for i+1 < len(r.Steps) && r.Steps[i+1].Jump < 0 {
			i++
		}
		time := new(big.Rat).Sub(sumOfTimes(r, i+1), sumOfTimes(r, from))
		if time.Sign() == 0 {
			continue
		}
		means := make([]*big.Rat, a.Dim)
		for v := range means {
			means[v] = new(big.Rat)
			for _, t := range r.Steps[from : i+1] {
				means[v].Add(means[v], new(big.Rat).Quo(new(big.Rat).Mul(rat(t.Time), rat(t.Rates[v])), time))
			}
		}
		x, _ := fits(time)
		rates, _ := nums(means)
		out.Steps = append(out.Steps, delayed(x, rates...))
	}
	return out
}

// P11.8, P11.10
func TestNormal(t *testing.T) {
	shorter := 0
	samples(1500, func(random *rand.Rand, a api.Auto, r api.Run) {
		l, e := wantedStates(a, r)
		want := api.Run{}
		if e == api.OK {
			want = wantedNormal(a, r)
		}
		got, f := Normal(a, r)
		if !reflect.DeepEqual(bare(got), bare(want)) || e != f {
			t.Fatalf("Normal(%v, %v): %v, %d, not %v, %d", a, r, got, f, want, e)
		}
		if e != api.OK {
			return
		}
		m, e := wantedStates(a, got)
		if e != api.OK || !same(m[0], l[0]) || !same(m[len(m)-1], l[len(l)-1]) {
			t.Fatalf("Normal(%v, %v): %v goes to %v, %d, not %v", a, r, got, m, e, l)
		}
		if sumOfTimes(r, len(r.Steps)).Cmp(sumOfTimes(got, len(got.Steps))) != 0 {
			t.Fatalf("Normal(%v, %v): %v has another duration", a, r, got)
		}
		shorter += min(len(r.Steps)-len(got.Steps), 1)
	})
	if shorter < 300 {
		t.Errorf("the samples are too much alike: %d", shorter)
	}
	r := runOf(state(0, integers(5)...), delayed(number(1, 1), number(1, 1)), delayed(number(0, 1), number(2, 1)), delayed(number(1, 1), number(2, 1)), jumped(0),
		delayed(number(0, 1), number(-1, 1)), delayed(number(6, 1), number(-1, 1)), jumped(1), delayed(number(0, 1), number(1, 1)), delayed(number(0, 1), number(2, 1)))
	want := runOf(state(0, integers(5)...), delayed(number(2, 1), number(3, 2)), jumped(0), delayed(number(6, 1), number(-1, 1)), jumped(1))
	if got, e := Normal(tank(), r); !reflect.DeepEqual(bare(got), want) || e != api.OK {
		t.Errorf("Normal: %v, %d", got, e)
	}
	if got, e := Normal(still(), runOf(state(0), delayed(number(1, 2)), delayed(number(1, 3)), jumped(1))); len(got.Steps) != 2 || got.Steps[0].Time != number(5, 6) || e != api.OK {
		t.Errorf("Normal without variables: %v, %d", got, e)
	}
}
