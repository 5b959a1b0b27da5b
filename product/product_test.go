package product

import (
	"math"
	"math/rand"
	"reflect"
	"slices"
	"testing"

	"floodmark/api"
	"floodmark/auto"
	"floodmark/run"
)

// P12.1, P12.2
func TestProduct(t *testing.T) {
	random := rand.New(rand.NewSource(1))
	together := 0
	for range 1000 {
		a, b, shared := someAuto(random), someAuto(random), someShared(random)
		want, f := wanted(a, b, shared)
		got, e := Product(a, b, shared)
		if !auto.Identical(got, want) || e != f {
			t.Fatalf("Product(%v, %v, %v): %v, %d, not %v, %d", a, b, shared, got, e, want, f)
		}
		_, parts := wantedJumps(a, b, shared)
		if e != api.OK {
			parts = nil
		}
		if l, e := Parts(a, b, shared); !slices.Equal(l, parts) || e != f {
			t.Fatalf("Parts(%v, %v, %v): %v, %d, not %v, %d", a, b, shared, l, e, parts, f)
		}
		if slices.ContainsFunc(parts, func(l [2]int) bool { return l[0] >= 0 && l[1] >= 0 }) {
			together++
		}
	}
	if together < 150 {
		t.Errorf("the samples are too much alike: %d", together)
	}
}

// P12.1, P12.2
func TestProductExamples(t *testing.T) {
	a, b := tank(), watch()
	two, e := Product(a, a, nil)
	if e != api.OK || len(two.Locs) != 4 || len(two.Jumps) != 8 || len(two.Init) != 4 || two.Dim != 2 {
		t.Errorf("two tanks: %v, %d", two, e)
	}
	for _, c := range []struct {
		shared []int
		want   [][2]int
	}{
		{[]int{2, 4}, [][2]int{{-1, 3}, {-1, 3}, {-1, 4}, {-1, 4}, {0, 0}, {0, 5}, {1, 1}, {1, 2}}},
		{[]int{4, 20}, [][2]int{{1, -1}, {1, -1}, {1, -1}, {-1, 1}, {-1, 1}, {-1, 2}, {-1, 2}, {-1, 3}, {-1, 3}, {0, 0}, {0, 5}}},
		{[]int{1, 20}, [][2]int{{0, -1}, {0, -1}, {0, -1}, {1, -1}, {1, -1}, {1, -1}, {-1, 0}, {-1, 0}, {-1, 1}, {-1, 1}, {-1, 2}, {-1, 2}, {-1, 3}, {-1, 3}, {-1, 5}, {-1, 5}}},
	} {
		if l, e := Parts(a, b, c.shared); !slices.Equal(l, c.want) || e != api.OK {
			t.Errorf("Parts with %v: %v, %d", c.shared, l, e)
		}
	}
	p, e := Product(a, b, []int{2, 4})
	text, _ := auto.Print([]string{"x", "y", "z"}, p)
	want := `auto 3
loc -x + 10 >= 0, -y + 100 >= 0, z >= 0 | x - 1 >= 0, -x + 2 >= 0, y - 1 = 0, z + 1 >= 0, -z + 1 >= 0
loc -x + 10 >= 0, y >= 0 | x - 1 >= 0, -x + 2 >= 0, y - 1 = 0, z = 0
loc -x + 10 >= 0 | x - 1 >= 0, -x + 2 >= 0, y = 0, z = 0
loc x >= 0, -y + 100 >= 0, z >= 0 | x + 1 = 0, y - 1 = 0, z + 1 >= 0, -z + 1 >= 0
loc x >= 0, y >= 0 | x + 1 = 0, y - 1 = 0, z = 0
loc x >= 0 | x + 1 = 0, y = 0, z = 0
jump 0 2 0 | -z + 5 >= 0 | y := ? | z := ?
jump 3 5 0 | -z + 5 >= 0 | y := ? | z := ?
jump 2 0 20 | true | z := z + 1
jump 5 3 20 | true | z := z + 1
jump 0 4 4 | x - 8 >= 0, y - 1 >= 0 | y := 0
jump 1 5 4 | x - 8 >= 0
jump 4 1 2 | -x + 2 >= 0, y - 1 >= 0 | y := y + z / 2 | z := ?
jump 4 0 2 | -x + 2 >= 0 | y := 0
init 0 | x - 5 = 0, y = 0, z - 1 >= 0
init 3 | x - 9 = 0, y = 0, z - 1 >= 0
`
	if text != want || e != api.OK {
		t.Errorf("Product: %d\n%s", e, text)
	}
	none := read(nil, "auto 0\nloc true | true\ninit 0 | true\n")
	if p, e := Product(none, b, nil); !auto.Identical(p, b) || e != api.OK {
		t.Errorf("Product of nothing and b: %v, %d", p, e)
	}
	if p, e := Product(b, none, []int{}); !auto.Identical(p, b) || e != api.OK {
		t.Errorf("Product of b and nothing: %v, %d", p, e)
	}
}

// P12.1: what a product may have at most.
func TestProductFull(t *testing.T) {
	simple := func(dim, locs, jumps, inits, conds int) api.Auto {
		p := api.Poly{Dim: dim}
		flow := p
		for v := range dim {
			c := api.Cond{Form: api.Form{Coef: make([]int, dim)}, Eq: true}
			c.Form.Coef[v] = 1
			flow.Conds = append(flow.Conds, c)
		}
		full := p
		full.Conds = slices.Repeat([]api.Cond{{Form: api.Form{Coef: make([]int, dim)}}}, conds)
		return api.Auto{
			Dim: dim, Locs: slices.Repeat([]api.Loc{{Inv: p, Flow: flow}}, locs),
			Jumps: slices.Repeat([]api.Jump{{Label: 7, Guard: full, Assign: keeps(dim)}}, jumps),
			Init:  slices.Repeat([]api.Zone{{Set: p}}, inits),
		}
	}
	with := func(a api.Auto, change func(a *api.Auto, p api.Poly)) api.Auto {
		p := api.Poly{Dim: a.Dim, Conds: slices.Repeat([]api.Cond{{Form: api.Form{Coef: make([]int, a.Dim)}, Eq: true}}, 60)}
		change(&a, p)
		return a
	}
	inv := func(a *api.Auto, p api.Poly) { a.Locs = []api.Loc{{Inv: p, Flow: a.Locs[0].Flow}} }
	flow := func(a *api.Auto, p api.Poly) {
		p.Conds = append(p.Conds[:59:59], a.Locs[0].Flow.Conds...)
		a.Locs = []api.Loc{{Inv: a.Locs[0].Inv, Flow: p}}
	}
	set := func(a *api.Auto, p api.Poly) { a.Init = []api.Zone{{Set: p}} }
	one := simple(1, 1, 0, 0, 0)
	for i, c := range []struct {
		a, b   api.Auto
		shared []int
		want   api.Errno
	}{
		{simple(2, 1, 0, 0, 0), simple(2, 1, 0, 0, 0), nil, api.OK},
		{simple(2, 1, 0, 0, 0), simple(3, 1, 0, 0, 0), nil, api.ErrFull},
		{simple(4, 1, 0, 0, 0), simple(0, 1, 0, 0, 0), nil, api.OK},
		{simple(0, 1, 0, 0, 0), simple(4, 1, 0, 0, 0), nil, api.OK},
		{simple(1, 1, 0, 0, 0), simple(4, 1, 0, 0, 0), nil, api.ErrFull},
		{simple(1, 3, 0, 0, 0), simple(1, 4, 0, 0, 0), nil, api.OK},
		{simple(1, 1, 0, 0, 0), simple(1, 12, 0, 0, 0), nil, api.OK},
		{simple(1, 2, 0, 0, 0), simple(1, 7, 0, 0, 0), nil, api.ErrFull},
		{simple(1, 13, 0, 0, 0), simple(1, 1, 0, 0, 0), nil, api.ErrArg},
		{simple(1, 1, 20, 0, 0), simple(1, 1, 20, 0, 0), nil, api.OK},
		{simple(1, 1, 20, 0, 0), simple(1, 1, 21, 0, 0), nil, api.ErrFull},
		{simple(1, 2, 10, 0, 0), simple(1, 2, 10, 0, 0), []int{6}, api.OK},
		{simple(1, 2, 10, 0, 0), simple(1, 3, 10, 0, 0), []int{6}, api.ErrFull},
		{simple(1, 2, 40, 0, 0), simple(1, 3, 1, 0, 0), []int{7}, api.OK},
		{simple(1, 2, 5, 0, 0), simple(1, 3, 8, 0, 0), []int{7}, api.OK},
		{simple(1, 2, 6, 0, 0), simple(1, 3, 7, 0, 0), []int{7}, api.ErrFull},
		{simple(1, 2, 40, 0, 0), simple(1, 3, 0, 0, 0), []int{7}, api.OK},
		{simple(1, 1, 0, 3, 0), simple(1, 1, 0, 4, 0), nil, api.OK},
		{simple(1, 1, 0, 5, 0), simple(1, 1, 0, 3, 0), nil, api.ErrFull},
		{simple(1, 1, 1, 0, 120), simple(1, 1, 1, 0, 120), nil, api.OK},
		{simple(1, 1, 1, 0, 60), simple(1, 1, 1, 0, 60), []int{7}, api.OK},
		{simple(1, 1, 1, 0, 61), simple(1, 1, 1, 0, 60), []int{7}, api.ErrFull},
		{with(one, inv), with(one, inv), nil, api.OK},
		{with(one, flow), with(one, flow), nil, api.OK},
		{with(one, set), with(one, set), nil, api.OK},
		{with(one, inv), with(one, func(a *api.Auto, p api.Poly) { p.Conds = append(p.Conds, p.Conds[0]); inv(a, p) }), nil, api.ErrFull},
		{with(one, func(a *api.Auto, p api.Poly) { p.Conds = append(p.Conds, p.Conds[0]); set(a, p) }), with(one, set), nil, api.ErrFull},
		{with(one, func(a *api.Auto, p api.Poly) { flow(a, p); f := &a.Locs[0].Flow; f.Conds = append(f.Conds, f.Conds[0]) }), with(one, flow), nil, api.ErrFull},
		{simple(4, 12, 40, 12, 120), simple(4, 12, 40, 12, 120), nil, api.ErrFull},
	} {
		if p, e := Product(c.a, c.b, c.shared); e != c.want || auto.Valid(p) != (e == api.OK) {
			t.Errorf("%d: Product: %v, %d", i, p, e)
		}
		if l, e := Parts(c.a, c.b, c.shared); e != c.want || e != api.OK && len(l) != 0 {
			t.Errorf("%d: Parts: %v, %d", i, l, e)
		}
	}
}

// P12.8
func TestStates(t *testing.T) {
	allowed, initial := 0, 0
	samples(1000, func(random *rand.Rand, a, b api.Auto, shared []int) {
		p, _ := Product(a, b, shared)
		x, y := state(random.Intn(len(a.Locs)), somePoint(random, a.Dim)...), state(random.Intn(len(b.Locs)), somePoint(random, b.Dim)...)
		s := state(x.Loc*len(b.Locs)+y.Loc, slices.Concat(x.Point, y.Point)...)
		is, _ := auto.Allowed(p, s)
		left, _ := auto.Allowed(a, x)
		right, _ := auto.Allowed(b, y)
		if is != (left && right) {
			t.Fatalf("%v of the product of %v and %v: %t, %t, %t", s, a, b, is, left, right)
		}
		starts, _ := auto.Initial(p, s)
		left, _ = auto.Initial(a, x)
		right, _ = auto.Initial(b, y)
		if starts != (left && right) {
			t.Fatalf("%v of the product of %v and %v: %t, %t, %t", s, a, b, starts, left, right)
		}
		if is {
			allowed++
		}
		if starts {
			initial++
		}
	})
	if allowed < 100 || initial < 50 {
		t.Errorf("the samples are too much alike: %d, %d", allowed, initial)
	}
}

// parts returns Split by the definition, for a possible run.
func parts(a, b api.Auto, shared []int, r api.Run) (api.Run, api.Run) {
	_, jumps := wantedJumps(a, b, shared)
	n := len(b.Locs)
	left := runOf(state(r.Start.Loc/n, r.Start.Point[:a.Dim]...))
	right := runOf(state(r.Start.Loc%n, r.Start.Point[a.Dim:]...))
	for _, t := range r.Steps {
		if t.Jump < 0 {
			left.Steps = append(left.Steps, delayed(t.Time, t.Rates[:a.Dim]...))
			right.Steps = append(right.Steps, delayed(t.Time, t.Rates[a.Dim:]...))
			continue
		}
		l, guess := jumps[t.Jump], t.Guess
		if l[0] >= 0 {
			n := 0
			for _, s := range a.Jumps[l[0]].Assign {
				n += s.Kind / api.Guess
			}
			left.Steps = append(left.Steps, jumped(l[0], guess[:n]...))
			guess = guess[n:]
		}
		if l[1] >= 0 {
			right.Steps = append(right.Steps, jumped(l[1], guess...))
		}
	}
	return left, right
}

// bare returns the run with nil for empty lists.
func bare(r api.Run) api.Run {
	out := runOf(state(r.Start.Loc, slices.Concat(r.Start.Point)...))
	for _, t := range r.Steps {
		t.Rates, t.Guess = slices.Concat(t.Rates), slices.Concat(t.Guess)
		out.Steps = append(out.Steps, t)
	}
	return out
}

func sameRun(r, s api.Run) bool { return reflect.DeepEqual(bare(r), bare(s)) }

// P12.3, P12.6
func TestSplit(t *testing.T) {
	counts := map[api.Errno]int{}
	shares := 0
	samples(1000, func(random *rand.Rand, a, b api.Auto, shared []int) {
		p, _ := Product(a, b, shared)
		r := someRun(random, p)
		if random.Intn(10) == 0 {
			r.Steps = append(r.Steps, delayed(number(1, 1), integers(make([]int, p.Dim)...)...))
			r.Steps[len(r.Steps)-1].Time.Top = -1
		}
		_, want := run.Follow(p, r)
		left, right := api.Run{}, api.Run{}
		if want == api.OK {
			left, right = parts(a, b, shared, r)
		}
		x, y, e := Split(a, b, shared, r)
		if !sameRun(x, left) || !sameRun(y, right) || e != want {
			t.Fatalf("Split(%v, %v, %v, %v): %v, %v, %d, not %v, %v, %d", a, b, shared, r, x, y, e, left, right, want)
		}
		counts[e]++
		if e != api.OK {
			return
		}
		last, _ := run.Last(p, r)
		left.Start, e = run.Last(a, x)
		right.Start, want = run.Last(b, y)
		if e != api.OK || want != api.OK || !slices.Equal(last.Point, slices.Concat(left.Start.Point, right.Start.Point)) || last.Loc != left.Start.Loc*len(b.Locs)+right.Start.Loc {
			t.Fatalf("%v, %v end in %v, %d, %v, %d", x, y, left.Start, e, right.Start, want)
		}
		if is, e := Match(a, b, shared, x, y); !is || e != api.OK {
			t.Fatalf("%v, %v of Split(%v, %v, %v, %v) do not match: %d", x, y, a, b, shared, r, e)
		}
		if len(x.Steps)+len(y.Steps) > len(r.Steps) {
			shares++
		}
	})
	if counts[api.OK] < 300 || counts[api.ErrKind] < 30 || counts[api.ErrStep] < 20 || shares < 100 {
		t.Errorf("the samples are too much alike: %v, %d", counts, shares)
	}
}

// changed returns a run that may match the same runs as r, or nearly so.
func changed(random *rand.Rand, a api.Auto, r api.Run) api.Run {
	r = bare(r)
	switch random.Intn(5) {
	case 0:
		r, _ = run.Normal(a, r)
	case 1: // a delay in parts
		for i, t := range r.Steps {
			if t.Jump < 0 {
				t.Time = ratio(t.Time.Top, 3*t.Time.Low)
				r.Steps = slices.Concat(r.Steps[:i], []api.Step{t, t, t}, r.Steps[i+1:])
				break
			}
		}
	case 2: // without one step
		if i := random.Intn(len(r.Steps) + 1); i < len(r.Steps) {
			r.Steps = slices.Delete(r.Steps, i, i+1)
		}
	case 3: // with other jumps
		for i, t := range r.Steps {
			if t.Jump >= 0 {
				r.Steps[i].Jump = random.Intn(len(a.Jumps))
			}
		}
	}
	return r
}

// P12.4, P12.5, P12.7
func TestMatch(t *testing.T) {
	counts := map[api.Errno]int{}
	matches, others := 0, 0
	samples(1500, func(random *rand.Rand, a, b api.Auto, shared []int) {
		p, _ := Product(a, b, shared)
		r, s, e := Split(a, b, shared, someRun(random, p))
		if e != api.OK || random.Intn(20) == 0 {
			r, s = someRun(random, a), someRun(random, b)
		}
		r, s = changed(random, a, r), changed(random, b, s)
		_, want := run.Follow(a, r)
		_, other := run.Follow(b, s)
		if other == api.ErrArg || want == api.OK {
			want = other
		}
		is := want == api.OK && matching(a, b, shared, r, s)
		got, e := Match(a, b, shared, r, s)
		if got != is || e != want {
			t.Fatalf("Match(%v, %v, %v, %v, %v): %t, %d, not %t, %d", a, b, shared, r, s, got, e, is, want)
		}
		joined, e := Join(a, b, shared, r, s)
		if is {
			checkJoined(t, a, b, shared, r, s, joined, e)
			matches++
		} else if want == api.OK {
			want = api.ErrStep
			others++
		}
		if e != want || e != api.OK && !reflect.DeepEqual(joined, api.Run{}) {
			t.Fatalf("Join(%v, %v, %v, %v, %v): %v, %d, not %d", a, b, shared, r, s, joined, e, want)
		}
		counts[e]++
	})
	if matches < 300 || others < 100 || counts[api.ErrKind] < 30 || counts[api.ErrStep] < 100 || counts[api.ErrArg] < 20 {
		t.Errorf("the samples are too much alike: %v, %d, %d", counts, matches, others)
	}
}

// checkJoined compares a joined run with the runs that it comes from.
func checkJoined(t *testing.T, a, b api.Auto, shared []int, r, s, joined api.Run, e api.Errno) {
	t.Helper()
	x, y, f := Split(a, b, shared, joined)
	if e != api.OK || f != api.OK {
		t.Fatalf("Join(%v, %v, %v, %v, %v): %v, %d; then Split: %d", a, b, shared, r, s, joined, e, f)
	}
	if len(joined.Steps) > len(r.Steps)+len(s.Steps) {
		t.Fatalf("Join(%v, %v, %v, %v, %v): %v is long", a, b, shared, r, s, joined)
	}
	for i, part := range [][2]api.Run{{x, r}, {y, s}} {
		of := []api.Auto{a, b}[i]
		one, _ := run.Last(of, part[0])
		two, _ := run.Last(of, part[1])
		if !same(part[0].Start, part[1].Start) || !same(one, two) ||
			sumOfTimes(part[0], len(part[0].Steps)).Cmp(sumOfTimes(part[1], len(part[1].Steps))) != 0 ||
			!slices.EqualFunc(happenings(of, part[0]), happenings(of, part[1]), sameHappening) {
			t.Fatalf("Join(%v, %v, %v, %v, %v): %v has the part %v", a, b, shared, r, s, joined, part[0])
		}
	}
}

func sameHappening(h, k happening) bool {
	return h.jump == k.jump && h.time == k.time && slices.Equal(h.guess, k.guess) && same(h.after, k.after)
}

// P12.4, P12.5: jumps at the same time.
func TestMatchExamples(t *testing.T) {
	a := read([]string{"x"}, "auto 1\nloc true | x >= 0, x <= 1\njump 0 0 1 | true\njump 0 0 2 | true | x := ?\njump 0 0 0 | true | x := x + 1\ninit 0 | x = 0\n")
	start, one := state(0, number(0, 1)), number(1, 1)
	wait := func(top, low int) api.Step { return delayed(number(top, low), one) }
	guess := func(x int) api.Step { return jumped(1, number(x, 1)) }
	for i, c := range []struct {
		shared []int
		r, s   []api.Step
		want   bool
	}{
		{nil, nil, nil, true},
		{[]int{1, 2}, nil, nil, true},
		{nil, []api.Step{wait(1, 1)}, nil, false},
		{nil, []api.Step{wait(0, 1)}, nil, true},
		{nil, []api.Step{wait(1, 1)}, []api.Step{wait(1, 2), wait(0, 1), wait(1, 2)}, true},
		{nil, []api.Step{wait(1, 3), wait(2, 3)}, []api.Step{wait(1, 2), wait(1, 2)}, true},
		{nil, []api.Step{wait(1, 3), wait(1, 3)}, []api.Step{wait(1, 2), wait(1, 2)}, false},
		{nil, []api.Step{jumped(0), wait(1, 1)}, []api.Step{wait(1, 1), guess(7), jumped(2)}, true},
		{[]int{1}, []api.Step{jumped(0)}, nil, false},
		{[]int{1}, nil, []api.Step{jumped(0)}, false},
		{[]int{2}, []api.Step{jumped(0)}, nil, true},
		{[]int{1}, []api.Step{jumped(0), wait(1, 1)}, []api.Step{wait(1, 1), jumped(0)}, false},
		{[]int{1}, []api.Step{wait(1, 1), jumped(0)}, []api.Step{wait(1, 3), wait(2, 3), jumped(0)}, true},
		{[]int{1, 2}, []api.Step{jumped(0), guess(3)}, []api.Step{jumped(0), guess(4)}, true},
		{[]int{1, 2}, []api.Step{jumped(0), guess(3)}, []api.Step{guess(4), jumped(0)}, false},
		{[]int{2}, []api.Step{jumped(0), guess(3)}, []api.Step{guess(4), jumped(0)}, true},
		{[]int{1, 2}, []api.Step{jumped(0), wait(0, 1), jumped(2), guess(3)}, []api.Step{jumped(2), jumped(0), jumped(2), wait(0, 1), guess(4), wait(0, 1), jumped(2)}, true},
		{[]int{1}, []api.Step{jumped(0), jumped(0)}, []api.Step{jumped(0)}, false},
		{[]int{1}, []api.Step{jumped(0), wait(1, 1), jumped(0)}, []api.Step{jumped(0), wait(1, 1), guess(5), jumped(0), guess(6)}, true},
		{[]int{1}, []api.Step{jumped(0), wait(1, 1), jumped(0)}, []api.Step{jumped(0), jumped(0), wait(1, 1)}, false},
		{[]int{1}, []api.Step{jumped(0), wait(1, 1)}, []api.Step{guess(1), wait(1, 1)}, false},
		{[]int{1, 2}, []api.Step{jumped(0), wait(1, 1)}, []api.Step{guess(1), wait(1, 1)}, false},
	} {
		r, s := runOf(start, c.r...), runOf(start, c.s...)
		if is, e := Match(a, a, c.shared, r, s); is != c.want || e != api.OK {
			t.Errorf("%d: Match: %t, %d", i, is, e)
		}
		joined, e := Join(a, a, c.shared, r, s)
		if c.want {
			checkJoined(t, a, a, c.shared, r, s, joined, e)
		} else if e != api.ErrStep || !reflect.DeepEqual(joined, api.Run{}) {
			t.Errorf("%d: Join: %v, %d", i, joined, e)
		}
	}
}

// plain has the variable x, which rises at any rate up to the greatest number,
// and two jumps that change nothing.
func plain() api.Auto {
	return read([]string{"x"}, "auto 1\nloc true | x >= 0, x <= 1152921504606846976\njump 0 0 1 | true\njump 0 0 2 | true\ninit 0 | x = 0\n")
}

// P12.4, P12.5: times and differences that are too large.
func TestTimesFull(t *testing.T) {
	a, start := plain(), state(0, number(0, 1))
	rest := func(top, low int) api.Step { return delayed(number(top, low), number(0, 1)) }
	for i, c := range []struct {
		r, s  []api.Step
		match api.Errno
		is    bool
		join  api.Errno
	}{
		{[]api.Step{rest(most, 1)}, []api.Step{rest(most, 1)}, api.OK, true, api.OK},
		{[]api.Step{rest(most, 1), rest(1, 1)}, []api.Step{rest(1, 1)}, api.ErrFull, false, api.ErrFull},
		{[]api.Step{rest(1, 1)}, []api.Step{rest(most, 1), rest(1, 1)}, api.ErrFull, false, api.ErrFull},
		{[]api.Step{rest(most, 1), rest(1, 1)}, []api.Step{rest(1, 1), rest(most, 1)}, api.ErrFull, false, api.ErrFull},
		{[]api.Step{rest(1, most), rest(1, 3), jumped(0)}, []api.Step{rest(1, most), rest(1, 3), jumped(0)}, api.ErrFull, false, api.ErrFull},
		// All times are valid, but their differences are not.
		{[]api.Step{rest(1, most), rest(most-1, most)}, []api.Step{rest(1, 3), rest(2, 3)}, api.OK, true, api.ErrFull},
		{[]api.Step{rest(1, 3), rest(2, 3)}, []api.Step{rest(1, most), rest(most-1, most)}, api.OK, true, api.ErrFull},
		{[]api.Step{rest(1, most), rest(most-1, most)}, []api.Step{rest(1, 4), rest(3, 4)}, api.OK, true, api.OK},
		// The times are valid, but a state in between is not.
		{[]api.Step{rest(1, 3), rest(2, 3)}, []api.Step{delayed(number(1, 1), number(1, most))}, api.OK, true, api.ErrFull},
		{[]api.Step{rest(1, 3), rest(2, 3)}, []api.Step{delayed(number(1, 1), number(3, most))}, api.OK, true, api.OK},
	} {
		r, s := runOf(start, c.r...), runOf(start, c.s...)
		if is, e := Match(a, a, nil, r, s); is != c.is || e != c.match {
			t.Errorf("%d: Match: %t, %d", i, is, e)
		}
		joined, e := Join(a, a, nil, r, s)
		if e != c.join || e != api.OK && !reflect.DeepEqual(joined, api.Run{}) {
			t.Errorf("%d: Join: %v, %d", i, joined, e)
		}
		if e == api.OK {
			checkJoined(t, a, a, nil, r, s, joined, e)
		}
	}
}

// P12.5: long runs.
func TestLongRuns(t *testing.T) {
	a, start := plain(), state(0, number(0, 1))
	steps := func(n int, t api.Step) api.Run { return runOf(start, slices.Repeat([]api.Step{t}, n)...) }
	delay := func(low int) api.Step { return delayed(number(1, low), number(1, 1)) }
	for i, c := range []struct {
		r, s   api.Run
		shared []int
		want   api.Errno
	}{
		{steps(30, jumped(0)), steps(30, jumped(1)), nil, api.OK},
		{steps(31, jumped(0)), steps(30, jumped(1)), nil, api.ErrFull},
		{steps(30, delay(30)), steps(31, delay(31)), nil, api.OK}, // the last delays end together
		{steps(59, delay(59)), steps(2, delay(2)), nil, api.OK},
		{steps(60, delay(60)), steps(1, delay(1)), nil, api.OK},
		{steps(60, delay(60)), steps(7, delay(7)), nil, api.ErrFull},
		{steps(60, jumped(0)), steps(60, jumped(0)), []int{1}, api.OK},
		{steps(60, jumped(0)), steps(60, jumped(0)), nil, api.ErrFull},
		{steps(60, delay(60)), steps(60, delay(60)), nil, api.OK},
		{steps(60, delayed(number(0, 1), number(1, 1))), steps(60, jumped(1)), nil, api.OK},
	} {
		joined, e := Join(a, a, c.shared, c.r, c.s)
		if e != c.want || e != api.OK && !reflect.DeepEqual(joined, api.Run{}) {
			t.Errorf("%d: Join: %v, %d", i, joined, e)
		}
		if e == api.OK {
			checkJoined(t, a, a, c.shared, c.r, c.s, joined, e)
		}
	}
}

// calls calls all functions.
func calls(a, b api.Auto, shared []int, r, s, whole api.Run) []api.Errno {
	p, e1 := Product(a, b, shared)
	l, e2 := Parts(a, b, shared)
	x, y, e3 := Split(a, b, shared, whole)
	is, e4 := Match(a, b, shared, r, s)
	j, e5 := Join(a, b, shared, r, s)
	if e1 != api.OK && !auto.Identical(p, api.Auto{}) || e2 != api.OK && len(l) != 0 || e4 != api.OK && is || e5 != api.OK && !sameRun(j, api.Run{}) ||
		e3 != api.OK && !(sameRun(x, api.Run{}) && sameRun(y, api.Run{})) {
		panic("a result beside an error")
	}
	return []api.Errno{e1, e2, e3, e4, e5}
}

// P12.1 to P12.5: the order of the errors.
func TestRefuse(t *testing.T) {
	a, b, c := tank(), watch(), watch()
	c.Dim, c.Jumps, c.Init = 3, nil, nil // not valid
	many := watch()
	many.Jumps = slices.Repeat(many.Jumps[3:4], api.MaxJumps)
	r := runOf(state(0, integers(5)...), delayed(number(1, 1), number(1, 1)))
	s := runOf(state(0, integers(0, 1)...), delayed(number(1, 1), integers(1, 0)...))
	both := runOf(state(0, integers(5, 0, 1)...), delayed(number(1, 1), integers(1, 1, 0)...))
	fail := func(e api.Errno) []api.Errno { return slices.Repeat([]api.Errno{e}, 5) }
	check := func(got, want []api.Errno) {
		t.Helper()
		if !slices.Equal(got, want) {
			t.Errorf("%v, not %v", got, want)
		}
	}
	check(calls(a, b, []int{4}, r, s, both), fail(api.OK))
	check(calls(c, b, []int{0}, api.Run{}, api.Run{}, api.Run{}), fail(api.ErrArg))
	check(calls(a, c, nil, r, s, both), fail(api.ErrArg))
	check(calls(a, api.Auto{}, []int{4}, r, s, both), fail(api.ErrArg))
	for _, l := range [][]int{{0}, {21}, {-1}, {1, 1}, {2, 1}, {1, 2, 2}, {1, 21}, {math.MinInt}, {math.MaxInt}, {4, 0}, slices.Repeat([]int{3}, 30)} {
		check(calls(a, b, l, r, s, both), fail(api.ErrRange))
		check(calls(b, many, l, r, s, both), fail(api.ErrRange))
	}
	every := []int{1, 2, 3, 4, 5, 6, 7, 8, 9, 10, 11, 12, 13, 14, 15, 16, 17, 18, 19, 20}
	check(calls(a, b, every, r, s, both), fail(api.OK))
	check(calls(a, many, nil, api.Run{}, api.Run{}, api.Run{}), fail(api.ErrFull))
	late := func(split, match api.Errno) []api.Errno { return []api.Errno{api.OK, api.OK, split, match, match} }
	step := delayed(number(1, 1), number(3, 1))
	bad := runOf(r.Start, api.Step{Jump: 2, Time: number(0, 1)})
	kind := runOf(state(0, integers(6)...))
	impossible := runOf(r.Start, step)
	for _, w := range []struct {
		r    api.Run
		want api.Errno
	}{{bad, api.ErrArg}, {kind, api.ErrKind}, {impossible, api.ErrStep}, {api.Run{}, api.ErrArg}} {
		check(calls(a, a, nil, w.r, r, both), late(api.ErrArg, w.want))
		check(calls(a, a, nil, r, w.r, w.r), late(api.ErrArg, w.want))
		check(calls(a, a, nil, w.r, bad, w.r), late(api.ErrArg, api.ErrArg))
		check(calls(a, a, nil, bad, w.r, w.r), late(api.ErrArg, api.ErrArg))
	}
	check(calls(a, a, nil, kind, impossible, both), late(api.ErrArg, api.ErrKind))
	check(calls(a, a, nil, impossible, kind, both), late(api.ErrArg, api.ErrStep))
	check(calls(a, b, []int{4}, r, runOf(s.Start), runOf(state(0, integers(5, 0, 0)...))), []api.Errno{api.OK, api.OK, api.ErrKind, api.OK, api.ErrStep})
	both.Steps[0].Rates[0].Top = 3
	check(calls(a, b, []int{4}, r, s, both), late(api.ErrStep, api.OK))
	// A run that is not possible comes before a time that is too large.
	p, start := plain(), state(0, number(0, 1))
	rest := delayed(number(most, 1), number(0, 1))
	long, wrong := runOf(start, rest, rest), runOf(start, delayed(number(-1, 1), number(0, 1)))
	check(calls(p, p, nil, long, wrong, runOf(state(0, integers(0, 0)...), delayed(number(most, 1), integers(most, 2)...))), late(api.ErrFull, api.ErrStep))
	check(calls(p, p, nil, long, long, api.Run{}), late(api.ErrArg, api.ErrFull))
}

// overwrite changes all numbers of a run.
func overwrite(r api.Run) {
	for _, l := range [][]api.Num{r.Start.Point} {
		clear(l[:cap(l)])
	}
	for _, t := range r.Steps {
		clear(t.Rates[:cap(t.Rates)])
		clear(t.Guess[:cap(t.Guess)])
	}
	clear(r.Steps[:cap(r.Steps)])
}

func overwritePoly(p api.Poly) {
	for _, c := range p.Conds {
		clear(c.Form.Coef[:cap(c.Form.Coef)])
	}
	clear(p.Conds[:cap(p.Conds)])
}

func overwriteAuto(a api.Auto) {
	for _, l := range a.Locs {
		overwritePoly(l.Inv)
		overwritePoly(l.Flow)
	}
	for _, j := range a.Jumps {
		overwritePoly(j.Guard)
		for _, s := range j.Assign {
			clear(s.Form.Coef[:cap(s.Form.Coef)])
		}
		clear(j.Assign[:cap(j.Assign)])
	}
	for _, z := range a.Init {
		overwritePoly(z.Set)
	}
}

// copyOf returns a copy that shares no memory with a.
func copyOf(a api.Auto) api.Auto {
	var order []int
	for l := range a.Locs {
		order = append(order, l)
	}
	b, _ := auto.Rename(a, order)
	return b
}

// A call changes none of its arguments, and its results are new.
func TestMemory(t *testing.T) {
	samples(300, func(random *rand.Rand, a, b api.Auto, shared []int) {
		oldA, oldB, oldShared := copyOf(a), copyOf(b), slices.Clone(shared)
		p, _ := Product(a, b, shared)
		again, _ := Product(a, b, shared)
		whole := someRun(random, p)
		r, s, e := Split(a, b, shared, whole)
		if e != api.OK {
			return
		}
		oldWhole, oldR, oldS := bare(whole), bare(r), bare(s)
		joined, _ := Join(a, b, shared, r, s)
		overwrite(joined)
		if !sameRun(r, oldR) || !sameRun(s, oldS) {
			t.Fatalf("%v, %v have become %v, %v", oldR, oldS, r, s)
		}
		overwrite(r)
		if !sameRun(s, oldS) {
			t.Fatal("both parts share memory")
		}
		overwrite(s)
		l, _ := Parts(a, b, shared)
		clear(l)
		for i, m := range p.Locs { // within one result
			kept := copyOf(api.Auto{Dim: p.Dim, Locs: p.Locs[i+1:]})
			overwritePoly(m.Inv)
			overwritePoly(m.Flow)
			if !auto.Identical(kept, api.Auto{Dim: p.Dim, Locs: p.Locs[i+1:]}) && i+1 < len(p.Locs) {
				t.Fatal("locations share memory")
			}
		}
		overwriteAuto(p)
		if !auto.Identical(a, oldA) || !auto.Identical(b, oldB) || !slices.Equal(shared, oldShared) || !sameRun(whole, oldWhole) {
			t.Fatalf("%v, %v, %v, %v have become %v, %v, %v, %v", oldA, oldB, oldShared, oldWhole, a, b, shared, whole)
		}
		if p, _ := Product(a, b, shared); !auto.Identical(p, again) {
			t.Fatal("the same call has another result")
		}
	})
}
