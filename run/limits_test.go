package run

import (
	"math/rand"
	"reflect"
	"slices"
	"testing"

	"floodmark/api"
	"floodmark/auto"
)

// wide is an automaton whose numbers may become too large: x stands still, y
// and z rise.
func wide() api.Auto {
	return read([]string{"x", "y", "z"}, `auto 3
loc 4 y <= 1152921504606846976 z | x = 0, y >= 0, y <= 1152921504606846976, z >= 0, z <= 2
loc true | x = 0, y = 0, z = 0
jump 0 0 0 | true | y := 1152921504606846976 y
jump 0 1 0 | true | x := 3 x / 2 | z := z / 3
jump 0 0 0 | y = 0 | y := 1152921504606846976 z + 1152921504606846976 | z := 1152921504606846976 z
init 0 | y >= 0, z >= 0
`)
}

// P11.1, P11.2: a step that is not possible, at whatever size, comes first;
// then a number that is too large.
func TestFull(t *testing.T) {
	a := wide()
	fine, top := number(1, most), number(most, 1)
	for i, c := range []struct {
		s    api.State
		t    api.Step
		want api.Errno
	}{
		{state(0, integers(0, 0, 9)...), delayed(number(1, 1), number(0, 1), top, number(0, 1)), api.OK},
		{state(0, integers(0, 1, 9)...), delayed(number(1, 1), number(0, 1), top, number(0, 1)), api.ErrFull},
		{state(0, integers(0, 0, 8)...), delayed(number(2, 1), number(0, 1), top, number(0, 1)), api.ErrFull},
		{state(0, integers(0, 0, 7)...), delayed(number(2, 1), number(0, 1), top, number(0, 1)), api.ErrStep},
		{state(0, number(0, 1), number(0, 1), number(7, 1)), delayed(number(2, 1), number(0, 1), top, fine), api.ErrStep},
		{state(0, number(0, 1), number(0, 1), number(7, 1)), delayed(number(2, 1), number(0, 1), top, number(1, 2)), api.ErrFull},
		{state(0, number(0, 1), number(0, 1), fine), delayed(number(1, 1), number(0, 1), number(0, 1), number(1, 3)), api.ErrFull},
		{state(0, number(0, 1), number(0, 1), fine), delayed(number(0, 1), number(0, 1), number(0, 1), number(1, 3)), api.OK},
		{state(0, number(0, 1), number(0, 1), fine), delayed(number(1, 1), number(0, 1), number(0, 1), number(1, 2)), api.OK},
		{state(0, number(0, 1), number(0, 1), fine), delayed(number(1, 1), number(0, 1), number(0, 1), number(2, 1)), api.ErrFull},
		{state(0, number(0, 1), number(0, 1), fine), jumped(1), api.ErrFull},
		{state(0, top, number(0, 1), number(0, 1)), jumped(1), api.ErrFull},
		{state(0, integers(0, 1, 4)...), jumped(0), api.OK},
		{state(0, integers(0, 2, 8)...), jumped(0), api.ErrFull},
		{state(0, integers(0, 2, 7)...), jumped(0), api.ErrStep},
		{state(0, integers(0, 0, 0)...), jumped(2), api.ErrStep},
		{state(0, integers(0, 0, 3)...), jumped(2), api.ErrFull},
	} {
		if s, e := Step(a, c.s, c.t); e != c.want || e != api.OK && !reflect.DeepEqual(s, api.State{}) {
			t.Errorf("%d: Step(%v, %v): %v, %d", i, c.s, c.t, s, e)
		}
		r := runOf(c.s, delayed(number(0, 1), integers(0, 0, 0)...), c.t)
		if l, e := Follow(a, r); e != c.want || e != api.OK && len(l) != 0 {
			t.Errorf("%d: Follow of %v: %v, %d", i, r, l, e)
		}
		// The first step with an error counts.
		r.Steps = append(r.Steps, api.Step{Jump: 1, Time: number(1, 1)})
		if l, e := Follow(a, r); e != max(c.want, api.ErrStep) && (c.want != api.ErrFull || e != api.ErrFull) || len(l) != 0 {
			t.Errorf("%d: Follow of %v: %v, %d", i, r, l, e)
		}
		if x, e := Append(a, runOf(c.s), c.t); e != c.want || e != api.OK && !reflect.DeepEqual(x, api.Run{}) {
			t.Errorf("%d: Append of %v: %v, %d", i, c.t, x, e)
		}
	}
}

// P11.3, P11.6, P11.8: times and means that are too large.
func TestLongTimes(t *testing.T) {
	a := wide()
	rest := integers(0, 0, 0)
	start := state(1, integers(1, 1, 1)...)
	a.Init = append(a.Init, api.Zone{Loc: 1, Set: api.Poly{Dim: 3}})
	long := runOf(start, delayed(number(most, 1), rest...), delayed(number(1, 2), rest...))
	if d, e := Duration(a, long); d != (api.Num{}) || e != api.ErrFull {
		t.Errorf("Duration: %v, %d", d, e)
	}
	if r, e := Normal(a, long); !reflect.DeepEqual(r, api.Run{}) || e != api.ErrFull {
		t.Errorf("Normal: %v, %d", r, e)
	}
	if l, e := At(a, long, number(most, 1)); !slices.EqualFunc(l, []api.State{start}, same) || e != api.OK {
		t.Errorf("At: %v, %d", l, e)
	}
	// Only the whole duration counts.
	back := runOf(start, delayed(number(1, most), rest...), delayed(number(1, 3), rest...), delayed(number(most-1, most), rest...))
	if d, e := Duration(a, back); d != number(4, 3) || e != api.OK {
		t.Errorf("Duration: %v, %d", d, e)
	}
	if n, e := Jumps(a, long); n != 0 || e != api.OK {
		t.Errorf("Jumps: %v, %d", n, e)
	}
	// A mean of rates that are valid.
	mixed := runOf(state(0, rest...), delayed(number(1, 1), number(0, 1), number(0, 1), number(1, most)), delayed(number(4, 1), number(0, 1), number(0, 1), number(1, 8)))
	for _, steps := range [][]api.Step{mixed.Steps, append(mixed.Steps, jumped(0))} {
		if r, e := Normal(a, runOf(mixed.Start, steps...)); !reflect.DeepEqual(r, api.Run{}) || e != api.ErrFull {
			t.Errorf("Normal: %v, %d", r, e)
		}
	}
	// A state on the way.
	way := runOf(mixed.Start, delayed(number(3, 1), number(0, 1), number(0, 1), number(1, most)))
	if l, e := At(a, way, number(1, 3)); len(l) != 0 || e != api.ErrFull {
		t.Errorf("At: %v, %d", l, e)
	}
	if l, e := At(a, way, number(10, 3)); len(l) != 0 || e != api.ErrRange {
		t.Errorf("At: %v, %d", l, e)
	}
}

// P11.1 to P11.8: what is not valid comes before everything else.
func TestRefuse(t *testing.T) {
	a, s, u, one := model(), state(0, integers(5, 0)...), jumped(0), number(1, 1)
	check := func(what any, result any, e api.Errno) {
		t.Helper()
		if e != api.ErrArg || !reflect.ValueOf(result).IsZero() {
			t.Errorf("%v: %v, %d", what, result, e)
		}
	}
	steps := func(a api.Auto, s api.State, u api.Step) {
		t.Helper()
		x, e := Step(a, s, u)
		check(u, x, e)
	}
	runs := func(a api.Auto, r api.Run, u api.Step, at api.Num) {
		t.Helper()
		x, e := Append(a, r, u)
		check(r, x, e)
		l, e := At(a, r, at)
		check(r, l, e)
	}
	all := func(a api.Auto, r api.Run) {
		t.Helper()
		runs(a, r, u, one)
		l, e := Follow(a, r)
		check(r, l, e)
		last, e := Last(a, r)
		check(r, last, e)
		d, e := Duration(a, r)
		check(r, d, e)
		n, e := Jumps(a, r)
		check(r, n, e)
		m, e := Normal(a, r)
		check(r, m, e)
	}
	guesses := func(a api.Auto, s api.State) {
		t.Helper()
		l, e := Enabled(a, s)
		check(s, l, e)
		g, e := Guess(a, s, -1)
		check(s, g, e)
	}
	impossible := runOf(state(0, integers(11, 0)...), u)
	for _, b := range badAutos() {
		steps(b, s, u)
		all(b, runOf(s))
		guesses(b, s)
	}
	for _, y := range badStates() {
		steps(a, y, u)
		all(a, runOf(y, u))
		guesses(a, y)
	}
	for _, w := range badSteps() {
		steps(a, s, w)
		steps(a, impossible.Start, w)
		all(a, runOf(s, delayed(number(0, 1), one, one), w))
		all(a, runOf(impossible.Start, w))
		x, e := Append(a, runOf(s), w)
		check(w, x, e)
		x, e = Append(a, impossible, w)
		check(w, x, e)
	}
	for _, at := range []api.Num{{}, number(2, 2), number(1, -1), number(most+1, 1)} {
		l, e := At(a, runOf(s), at)
		check(at, l, e)
		l, e = At(a, impossible, at)
		check(at, l, e)
	}
	still := delayed(number(0, 1), one, number(0, 1))
	all(a, runOf(s, slices.Repeat([]api.Step{still}, api.MaxSteps+1)...))
	if l, e := Follow(a, runOf(s, slices.Repeat([]api.Step{still}, api.MaxSteps)...)); len(l) != api.MaxSteps+1 || e != api.OK {
		t.Errorf("Follow of a long run: %v, %d", l, e)
	}
}

// The errors of Follow are those of the other functions.
func TestErrorsOfFollow(t *testing.T) {
	a := model()
	for want, r := range map[api.Errno]api.Run{
		api.ErrKind: runOf(state(0, integers(6, 0)...), jumped(1, number(0, 1))),
		api.ErrStep: runOf(state(0, integers(5, 0)...), jumped(1, number(0, 1))),
	} {
		if s, e := Last(a, r); e != want || !reflect.DeepEqual(s, api.State{}) {
			t.Errorf("Last: %v, %d", s, e)
		}
		if d, e := Duration(a, r); e != want || d != (api.Num{}) {
			t.Errorf("Duration: %v, %d", d, e)
		}
		if n, e := Jumps(a, r); e != want || n != 0 {
			t.Errorf("Jumps: %v, %d", n, e)
		}
		if l, e := At(a, r, number(-1, 1)); e != want || len(l) != 0 {
			t.Errorf("At: %v, %d", l, e)
		}
		if x, e := Append(a, r, jumped(1, number(0, 1))); e != want || !reflect.DeepEqual(x, api.Run{}) {
			t.Errorf("Append: %v, %d", x, e)
		}
		if x, e := Normal(a, r); e != want || !reflect.DeepEqual(x, api.Run{}) {
			t.Errorf("Normal: %v, %d", x, e)
		}
	}
}

// overwrite changes all numbers of the lists, and what may lie behind them.
func overwrite(lists ...[]api.Num) {
	for _, l := range lists {
		l = l[:cap(l)]
		for i := range l {
			l[i] = number(77, 1)
		}
	}
}

func overwriteRun(r api.Run) {
	overwrite(r.Start.Point)
	for _, t := range r.Steps {
		overwrite(t.Rates, t.Guess)
	}
	clear(r.Steps[:cap(r.Steps)])
}

// copyOf returns a copy that shares no memory with a.
func copyOf(a api.Auto) api.Auto {
	var order []int
	for l := range a.Locs {
		order = append(order, l)
	}
	b, e := auto.Rename(a, order)
	if e != api.OK {
		panic(e)
	}
	return b
}

// A call changes none of its arguments, and its results are new.
func TestMemory(t *testing.T) {
	samples(500, func(random *rand.Rand, a api.Auto, r api.Run) {
		l, e := Follow(a, r)
		if e != api.OK {
			return
		}
		oldAuto, oldRun := copyOf(a), bare(r)
		u := delayed(number(0, 1), integers(make([]int, a.Dim)...)...)
		for i, s := range l {
			for _, y := range l[i+1:] {
				kept := bare(runOf(y)).Start
				overwrite(s.Point)
				if !same(y, kept) {
					t.Fatal("states share memory")
				}
			}
		}
		s, _ := Last(a, r)
		overwrite(s.Point)
		s, _ = Step(a, r.Start, u)
		overwrite(s.Point)
		l, _ = At(a, r, number(0, 1))
		for _, s := range l {
			overwrite(s.Point)
		}
		for j := range a.Jumps {
			g, _ := Guess(a, r.Start, j)
			overwrite(g)
		}
		x, _ := Append(a, r, u)
		overwriteRun(x)
		x, _ = Normal(a, r)
		overwriteRun(x)
		if !reflect.DeepEqual(bare(r), oldRun) || !auto.Identical(a, oldAuto) || !slices.Equal(u.Rates, integers(make([]int, a.Dim)...)) {
			t.Fatalf("%v, %v have become %v, %v", oldAuto, oldRun, a, r)
		}
	})
}
