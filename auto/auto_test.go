package auto

import (
	"math"
	"math/rand"
	"reflect"
	"slices"
	"testing"

	"floodmark/api"
)

// P10.1
func TestValid(t *testing.T) {
	full := model()
	full.Locs = slices.Repeat(full.Locs, 4)
	full.Jumps = slices.Repeat(full.Jumps, 14)[:api.MaxJumps]
	full.Init = slices.Repeat(full.Init, 4)
	large := model()
	large.Jumps[2].Assign = []api.Assign{set(most, -most, most, -most), guess()}
	large.Jumps[2].Guard = polyhedron(2, least(-most, most, -most))
	large.Jumps[2].Label = 1
	empty := model()
	empty.Locs[0].Inv, empty.Jumps[0].Guard, empty.Init[0].Set = read("-1 >= 0"), read("x >= 1, x <= 0"), read("0 = 1")
	bare := model()
	bare.Jumps, bare.Init = []api.Jump{}, nil
	bare.Locs[0].Inv.Conds = []api.Cond{}
	bare.Jumps = []api.Jump{{Guard: polyhedron(2), Assign: []api.Assign{{Form: api.Form{Coef: []int{}}}, guess()}}}
	point := api.Auto{Locs: []api.Loc{{}}, Jumps: []api.Jump{{}}, Init: []api.Zone{{}}}
	flat := model()
	flat.Locs[1].Flow = read("x >= 2, x <= 2, x + y <= 4, x + y >= 1")
	for i, a := range []api.Auto{model(), full, large, empty, bare, point, flat, {Locs: []api.Loc{{Inv: polyhedron(0, least(-1))}}}} {
		if !Valid(a) {
			t.Errorf("automaton %d is not valid: %v", i, a)
		}
	}
	for i, a := range bad() {
		if Valid(a) {
			t.Errorf("automaton %d is valid: %v", i, a)
		}
	}
	samples(300, func(random *rand.Rand, a api.Auto) {
		if !Valid(a) {
			t.Fatalf("not valid: %v", a)
		}
	})
}

func num(top, low int) api.Num { return api.Num{Top: top, Low: low} }

func state(loc int, x ...api.Num) api.State { return api.State{Loc: loc, Point: x} }

// P10.2
func TestStates(t *testing.T) {
	for _, c := range []struct {
		s                api.State
		allowed, initial bool
	}{
		{state(0, num(5, 1), num(0, 1)), true, true},
		{state(0, num(5, 1), num(7, 2)), true, true},
		{state(0, num(5, 1), num(-1, 1)), false, false}, // in an initial set only
		{state(0, num(50, 1), num(0, 1)), false, false},
		{state(0, num(11, 2), num(0, 1)), true, false},
		{state(0, num(10, 1), num(0, 1)), true, false},
		{state(0, num(21, 2), num(0, 1)), false, false},
		{state(0, num(-most, 1), num(1, most)), true, false},
		{state(1, num(5, 1), num(0, 1)), true, false}, // in the set of another location
		{state(2, num(0, 1), num(1, 1)), true, true},
		{state(2, num(1, 3), num(2, 3)), true, true},
		{state(2, num(1, 3), num(1, 3)), true, false},
		{state(2, num(-1, 3), num(2, 1)), false, false},
		{state(2, num(5, 1), num(0, 1)), true, true},
	} {
		if is, e := Allowed(model(), c.s); is != c.allowed || e != api.OK {
			t.Errorf("Allowed of %v: %t, %d", c.s, is, e)
		}
		if is, e := Initial(model(), c.s); is != c.initial || e != api.OK {
			t.Errorf("Initial of %v: %t, %d", c.s, is, e)
		}
	}
	nowhere := api.Auto{Locs: []api.Loc{{}, {Inv: polyhedron(0, least(-1))}}, Init: []api.Zone{{}, {Loc: 1}}}
	for l, want := range []bool{true, false} {
		if is, e := Allowed(nowhere, state(l)); is != want || e != api.OK {
			t.Errorf("Allowed without variables: %t, %d", is, e)
		}
		if is, e := Initial(nowhere, api.State{Loc: l, Point: []api.Num{}}); is != want || e != api.OK {
			t.Errorf("Initial without variables: %t, %d", is, e)
		}
	}
	samples(300, func(random *rand.Rand, a api.Auto) {
		s := state(random.Intn(len(a.Locs)))
		for range a.Dim {
			s.Point = append(s.Point, num(random.Intn(7)-3, 1))
		}
		allowed := has(a.Locs[s.Loc].Inv, s.Point)
		initial := false
		for _, z := range a.Init {
			initial = initial || allowed && z.Loc == s.Loc && has(z.Set, s.Point)
		}
		if is, e := Allowed(a, s); is != allowed || e != api.OK {
			t.Fatalf("Allowed(%v, %v): %t, %d", a, s, is, e)
		}
		if is, e := Initial(a, s); is != initial || e != api.OK {
			t.Fatalf("Initial(%v, %v): %t, %d", a, s, is, e)
		}
	})
}

// P10.2
func TestBadStates(t *testing.T) {
	one := num(1, 1)
	for _, s := range []api.State{
		state(-1, one, one), state(3, one, one), state(math.MaxInt, one, one), state(math.MinInt, one, one),
		{}, state(0), state(0, one), state(0, one, one, one), state(0, one, num(2, 2)), state(0, num(1, 0), one),
		state(0, one, num(1, -1)), state(0, one, num(most+1, 1)), state(0, one, num(1, most+1)),
		state(0, one, one, one, one, one, one, one, one, one),
	} {
		if is, e := Allowed(model(), s); is || e != api.ErrArg {
			t.Errorf("Allowed of %v: %t, %d", s, is, e)
		}
		if is, e := Initial(model(), s); is || e != api.ErrArg {
			t.Errorf("Initial of %v: %t, %d", s, is, e)
		}
	}
}

// P10.3
func TestParams(t *testing.T) {
	for i, c := range []struct {
		change func(a *api.Auto)
		want   []int
	}{
		{func(a *api.Auto) {}, nil},
		{func(a *api.Auto) { a.Jumps = nil }, nil},
		{func(a *api.Auto) { a.Locs, a.Jumps, a.Init = a.Locs[:2], a.Jumps[:1], nil }, []int{1}},
		{func(a *api.Auto) { a.Locs, a.Jumps, a.Init = a.Locs[:2], nil, nil }, []int{1}},
		{func(a *api.Auto) { a.Locs, a.Jumps, a.Init = a.Locs[1:2], nil, nil }, []int{0, 1}},
		{func(a *api.Auto) { a.Locs, a.Jumps, a.Init = a.Locs[:2], a.Jumps[1:], nil }, nil},
		{func(a *api.Auto) { a.Locs, a.Jumps, a.Init = a.Locs[:2], a.Jumps[2:], nil }, []int{1}},
		// However the flow is written; but not if it only contains 0.
		{func(a *api.Auto) {
			a.Locs, a.Jumps, a.Init = []api.Loc{{Inv: read("true"), Flow: read("x - y <= 0, x + y <= 0, 2 x >= 0")}}, nil, nil
		}, []int{0, 1}},
		{func(a *api.Auto) {
			a.Locs, a.Jumps, a.Init = []api.Loc{{Inv: read("true"), Flow: read("x + y = 1, 2 y = 2")}}, nil, nil
		}, []int{0}},
		{func(a *api.Auto) {
			a.Locs, a.Jumps, a.Init = []api.Loc{{Inv: read("x = 0"), Flow: read("x >= 0, x <= 1, y >= -1, y <= 0")}}, nil, nil
		}, nil},
		{func(a *api.Auto) {
			a.Locs, a.Jumps, a.Init = []api.Loc{{Inv: read("x = 0"), Flow: polyhedron(2, equal(-1, most, most-1), equal(-1, most-2, most-5))}}, nil, nil
		}, nil},
		// Only a jump with Keep keeps a variable.
		{func(a *api.Auto) {
			a.Locs, a.Jumps, a.Init = a.Locs[1:2], a.Jumps[2:], nil
			a.Jumps[0].From, a.Jumps[0].Assign[0] = 0, set(1, 0, 1, 0)
		}, []int{1}},
		{func(a *api.Auto) {
			a.Locs, a.Jumps, a.Init = a.Locs[1:2], a.Jumps[2:], nil
			a.Jumps[0].From, a.Jumps[0].Assign[1] = 0, guess()
		}, []int{0}},
		{func(a *api.Auto) { *a = api.Auto{Locs: make([]api.Loc, 3)} }, nil},
	} {
		a := model()
		c.change(&a)
		if l, e := Params(a); !slices.Equal(l, c.want) || e != api.OK {
			t.Errorf("Params of automaton %d: %v, %d", i, l, e)
		}
	}
}

// chain returns an automaton without variables that has these jumps.
func chain(locs int, starts []int, jumps ...[2]int) api.Auto {
	a := api.Auto{Locs: make([]api.Loc, locs)}
	for _, l := range starts {
		a.Init = append(a.Init, api.Zone{Loc: l, Set: polyhedron(0, least(-1))})
	}
	for _, j := range jumps {
		a.Jumps = append(a.Jumps, api.Jump{From: j[0], To: j[1], Guard: polyhedron(0, least(-1))})
	}
	return a
}

// P10.4
func TestGraph(t *testing.T) {
	for i, c := range []struct {
		a    api.Auto
		want []bool
	}{
		{model(), []bool{true, true, true}},
		{chain(1, nil), []bool{false}},
		{chain(1, []int{0}), []bool{true}},
		{chain(3, nil, [2]int{0, 1}, [2]int{1, 2}), []bool{false, false, false}},
		{chain(3, []int{1}, [2]int{0, 1}, [2]int{1, 2}), []bool{false, true, true}},
		{chain(3, []int{1}, [2]int{0, 2}, [2]int{1, 1}), []bool{false, true, false}},
		{chain(4, []int{3, 3}, [2]int{1, 0}, [2]int{2, 1}, [2]int{3, 2}), []bool{true, true, true, true}},
		{chain(4, []int{2}, [2]int{0, 1}, [2]int{1, 0}, [2]int{3, 0}), []bool{false, false, true, false}},
		{chain(2, []int{0, 1}), []bool{true, true}},
	} {
		if l, e := Graph(c.a); !slices.Equal(l, c.want) || e != api.OK {
			t.Errorf("Graph of automaton %d: %v, %d", i, l, e)
		}
	}
	random := rand.New(rand.NewSource(35))
	for range 500 {
		n := 1 + random.Intn(api.MaxLocs)
		var starts []int
		var jumps [][2]int
		next := map[int][]int{}
		for range random.Intn(3) {
			starts = append(starts, random.Intn(n))
		}
		for range random.Intn(2 * n) {
			j := [2]int{random.Intn(n), random.Intn(n)}
			jumps = append(jumps, j)
			next[j[0]] = append(next[j[0]], j[1])
		}
		want := make([]bool, n)
		work := slices.Clone(starts)
		for len(work) > 0 {
			l := work[0]
			work = work[1:]
			if !want[l] {
				want[l] = true
				work = append(work, next[l]...)
			}
		}
		if l, e := Graph(chain(n, starts, jumps...)); !slices.Equal(l, want) || e != api.OK {
			t.Fatalf("Graph of %v from %v: %v, %d", jumps, starts, l, e)
		}
	}
}

// P10.5
func TestRename(t *testing.T) {
	want := model()
	want.Locs[0], want.Locs[1], want.Locs[2] = want.Locs[2], want.Locs[0], want.Locs[1]
	want.Jumps[0].From, want.Jumps[0].To = 1, 2
	want.Jumps[1].From, want.Jumps[1].To = 2, 2
	want.Jumps[2].From, want.Jumps[2].To = 2, 1
	want.Init[0].Loc, want.Init[1].Loc, want.Init[2].Loc = 1, 0, 1
	if b, e := Rename(model(), []int{2, 0, 1}); !Identical(b, want) || e != api.OK {
		t.Errorf("%v, %d", b, e)
	}
	for _, l := range [][]int{
		nil, {0}, {0, 1}, {0, 1, 2, 3}, {0, 1, 2, 2}, {0, 0, 1}, {1, 2, 3}, {-1, 0, 1}, {0, 2, 2}, {0, 1, math.MaxInt}, {math.MinInt, 1, 2}, make([]int, 1000),
	} {
		if b, e := Rename(model(), l); !reflect.DeepEqual(b, api.Auto{}) || e != api.ErrRange {
			t.Errorf("Rename with %v: %v, %d", l, b, e)
		}
	}
}

// P10.5, P10.9
func TestRenameBack(t *testing.T) {
	samples(300, func(random *rand.Rand, a api.Auto) {
		n := len(a.Locs)
		order, back := random.Perm(n), make([]int, n)
		for i, l := range order {
			back[l] = i
		}
		b, e := Rename(a, order)
		if e != api.OK || !Valid(b) || b.Dim != a.Dim || len(b.Locs) != n || len(b.Jumps) != len(a.Jumps) || len(b.Init) != len(a.Init) {
			t.Fatalf("Rename(%v, %v): %v, %d", a, order, b, e)
		}
		for i, l := range order {
			if !sameLoc(b.Locs[i], a.Locs[l]) {
				t.Fatalf("Rename(%v, %v): %v", a, order, b)
			}
		}
		for i, j := range b.Jumps {
			j.From, j.To = order[j.From], order[j.To]
			if !sameJump(j, a.Jumps[i]) {
				t.Fatalf("Rename(%v, %v): %v", a, order, b)
			}
		}
		for i, z := range b.Init {
			z.Loc = order[z.Loc]
			if !sameZone(z, a.Init[i]) {
				t.Fatalf("Rename(%v, %v): %v", a, order, b)
			}
		}
		if c, e := Rename(b, back); !Identical(a, c) || e != api.OK {
			t.Fatalf("Rename(%v, %v) and back: %v, %d", a, order, c, e)
		}
	})
}

// P10.6
func TestIdentical(t *testing.T) {
	sets := []api.Poly{read("x <= 10, y >= 1"), read("x <= 10"), read("x <= 10, y = 0"), read("y >= 0, x <= 10"), {Dim: 3}, {}}
	assigns := []api.Assign{keep(), guess(), set(3, 1, 3, -1), set(2, 2, 3, -1), set(2, 1, 3, 1), set(2, 1, 3), set(2, 1, 3, -1, 0), {Kind: api.Guess, Form: set(2, 1, 3, -1).Form, Low: 2}}
	others := slices.Concat(
		changed(sets, func(a *api.Auto, p api.Poly) { a.Locs[0].Inv = p }),
		changed(sets, func(a *api.Auto, p api.Poly) { a.Locs[2].Flow = p }),
		changed(sets, func(a *api.Auto, p api.Poly) { a.Jumps[1].Guard = p }),
		changed(sets, func(a *api.Auto, p api.Poly) { a.Init[2].Set = p }),
		changed(assigns, func(a *api.Auto, s api.Assign) { a.Jumps[0].Assign[0] = s }),
		changed([]int{0, 1, 3}, func(a *api.Auto, n int) { a.Jumps[2].Assign = make([]api.Assign, n) }),
		changed([]int{-1, 0, 3}, func(a *api.Auto, n int) { a.Dim = n }),
		changed([]int{-1, 1, 7}, func(a *api.Auto, n int) { a.Jumps[0].From = n }),
		changed([]int{-1, 0, 7}, func(a *api.Auto, n int) { a.Jumps[0].To = n }),
		changed([]int{-1, 0, 7}, func(a *api.Auto, n int) { a.Jumps[0].Label = n }),
		changed([]int{-1, 0, 7}, func(a *api.Auto, n int) { a.Init[1].Loc = n }),
		changed([]int{0, 2}, func(a *api.Auto, n int) { a.Locs = a.Locs[:n] }),
		changed([]int{0, 2}, func(a *api.Auto, n int) { a.Jumps = a.Jumps[:n] }),
		changed([]int{0, 2}, func(a *api.Auto, n int) { a.Init = a.Init[:n] }),
		changed([]int{0, 2}, func(a *api.Auto, n int) { a.Locs[n], a.Locs[1] = a.Locs[1], a.Locs[n] }),
		changed([]int{0, 2}, func(a *api.Auto, n int) { a.Jumps[n], a.Jumps[1] = a.Jumps[1], a.Jumps[n] }),
		changed([]int{0, 2}, func(a *api.Auto, n int) { a.Init[n], a.Init[1] = a.Init[1], a.Init[n] }),
	)
	for i, a := range others {
		if Identical(a, model()) || Identical(model(), a) {
			t.Errorf("automaton %d: %v", i, a)
		}
	}
	for i, a := range append(bad(), others...) {
		if !Identical(a, a) {
			t.Errorf("automaton %d and itself: %v", i, a)
		}
	}
	if !Identical(model(), model()) {
		t.Error("equal automata are not identical")
	}
	empty := api.Auto{Locs: []api.Loc{}, Jumps: []api.Jump{}, Init: []api.Zone{}}
	if !Identical(empty, api.Auto{}) {
		t.Error("empty lists are not nil")
	}
	a := api.Auto{Jumps: []api.Jump{{Assign: []api.Assign{{Form: api.Form{Coef: []int{}}}}}, {Assign: []api.Assign{}, Guard: api.Poly{Conds: []api.Cond{}}}}}
	if !Identical(a, api.Auto{Jumps: []api.Jump{{Assign: []api.Assign{{}}}, {}}}) {
		t.Error("empty lists are not nil")
	}
}

// P10.2 to P10.5, P10.7: automata that are not valid, before all other errors.
func TestRefuse(t *testing.T) {
	for i, a := range bad() {
		is, e1 := Allowed(a, state(7, num(2, 2)))
		is2, e2 := Initial(a, state(0, num(5, 1), num(0, 1)))
		params, e3 := Params(a)
		graph, e4 := Graph(a)
		b, e5 := Rename(a, []int{7})
		text, e6 := Print([]string{"x", "x"}, a)
		if is || is2 || params != nil || graph != nil || !reflect.DeepEqual(b, api.Auto{}) || text != "" {
			t.Errorf("results for automaton %d: %t, %t, %v, %v, %v, %q", i, is, is2, params, graph, b, text)
		}
		for k, e := range []api.Errno{e1, e2, e3, e4, e5, e6} {
			if e != api.ErrArg {
				t.Errorf("error %d for automaton %d: %d", k, i, e)
			}
		}
	}
}

// overwrite changes all numbers, also behind the ends of the lists.
func overwrite(a api.Auto) {
	spoil := func(f api.Form) {
		l := f.Coef[:cap(f.Coef)]
		for i := range l {
			l[i] = 78
		}
	}
	spoilSet := func(p api.Poly) {
		l := p.Conds[:cap(p.Conds)]
		for i, c := range l {
			spoil(c.Form)
			l[i] = api.Cond{}
		}
	}
	for i, l := range a.Locs {
		spoilSet(l.Inv)
		spoilSet(l.Flow)
		a.Locs[i] = api.Loc{}
	}
	for i, j := range a.Jumps {
		spoilSet(j.Guard)
		for k, s := range j.Assign {
			spoil(s.Form)
			j.Assign[k] = api.Assign{Kind: 9}
		}
		a.Jumps[i] = api.Jump{From: 9}
	}
	for i, z := range a.Init {
		spoilSet(z.Set)
		a.Init[i] = api.Zone{Loc: 9}
	}
}

// P10.3 to P10.5, P10.7: results share no memory with arguments and other
// results, and arguments stay as they are.
func TestMemory(t *testing.T) {
	a, order := model(), []int{0, 1, 2}
	s := state(0, num(5, 1), num(0, 1))
	b, _ := Rename(a, order)
	c, _ := Rename(a, order)
	Allowed(a, s)
	Initial(a, s)
	Params(a)
	Graph(a)
	Print(names[:2], a)
	overwrite(b)
	if !Identical(a, model()) || !Identical(c, model()) || !slices.Equal(order, []int{0, 1, 2}) || !reflect.DeepEqual(s, state(0, num(5, 1), num(0, 1))) {
		t.Error("Rename shares memory")
	}
	d, _ := Parse(names[:2], modelText)
	e, _ := Parse(names[:2], modelText)
	overwrite(d)
	if !Identical(e, model()) || !slices.Equal(names, []string{"x", "y", "z", "w"}) {
		t.Error("Parse shares memory")
	}
	params, _ := Params(chain(1, nil))
	graph, _ := Graph(a)
	if graph[0] = false; len(params) != 0 {
		t.Error("Params")
	}
	if again, _ := Graph(a); !again[0] {
		t.Error("Graph shares memory")
	}
}
