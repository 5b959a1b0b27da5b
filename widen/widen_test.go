package widen

import (
	"math"
	"math/rand"
	"reflect"
	"slices"
	"testing"

	"floodmark/api"
	"floodmark/poly"
)

// fine is a point whose numbers are not valid; wedge has it as its corner.
var (
	fine  = polyhedron(2, equal(-1, most, most-1), equal(-1, most-2, most-5))
	wedge = polyhedron(2, least(-1, most, most-1), least(-1, most-2, most-5))
)

// bad returns polyhedra that are not valid.
func bad() []api.Poly {
	many := polyhedron(2)
	for i := range api.MaxConds + 1 {
		many.Conds = append(many.Conds, least(i, 0, 1))
	}
	return []api.Poly{
		many, polyhedron(-1), polyhedron(api.MaxDim + 1), polyhedron(math.MaxInt), polyhedron(math.MinInt),
		polyhedron(2, api.Cond{}), polyhedron(2, least(0, 1)), polyhedron(2, least(0, 1, 1, 1)), polyhedron(0, least(0, 1)),
		polyhedron(2, least(most+1, 1, 1)), polyhedron(2, equal(0, 1, -most-1)), polyhedron(2, least(math.MinInt, 1, 1)),
	}
}

// read returns the polyhedron of a text about x and y.
func read(text string) api.Poly { return must(poly.Parse([]string{"x", "y"}, text)) }

func expect(t *testing.T, name string, got api.Poly, e api.Errno, want api.Poly, wantE api.Errno) {
	t.Helper()
	if !poly.Identical(got, want) || e != wantE {
		t.Errorf("%s: %v, %d, not %v, %d", name, got, e, want, wantE)
	}
}

// P9.3
func TestParts(t *testing.T) {
	form := func(add int, coef ...int) api.Form { return api.Form{Coef: coef, Add: add} }
	for _, c := range []struct {
		p    api.Poly
		want []api.Form
	}{
		{read("y >= 0, x = 1"), []api.Form{form(-1, 1, 0), form(1, -1, 0), form(0, 0, 1)}},
		{read("x >= 1, y >= -2, 2 y >= 0, x <= 1"), []api.Form{form(-1, 1, 0), form(1, -1, 0), form(0, 0, 1)}},
		{read("y >= x, x >= 0, y <= 3"), []api.Form{form(0, -1, 1), form(3, 0, -1), form(0, 1, 0)}},
		{read("y = 2, 2 x = 3"), []api.Form{form(-3, 2, 0), form(3, -2, 0), form(-2, 0, 1), form(2, 0, -1)}},
		{read("x + y = 4, x >= 0, y >= 0"), []api.Form{form(-4, 1, 1), form(4, -1, -1), form(4, 0, -1), form(0, 0, 1)}},
		{read("true"), nil},
		{polyhedron(0), nil},
		{polyhedron(0, least(5), equal(0)), nil},
		{polyhedron(1, least(0, most), least(most, -most)), []api.Form{form(1, -1), form(0, 1)}},
		{polyhedron(1, least(most-1, -most)), []api.Form{form(most-1, -most)}},
	} {
		if l, e := Parts(c.p); !slices.EqualFunc(l, c.want, func(f, g api.Form) bool { return reflect.DeepEqual(f, g) }) || e != api.OK {
			t.Errorf("Parts(%v): %v, %d", c.p, l, e)
		}
	}
	for _, p := range []api.Poly{none(2), none(0), read("x >= 1, x <= 0"), polyhedron(0, equal(1)), polyhedron(2, append(fine.Conds, least(-1, 0, 0))...)} {
		if l, e := Parts(p); l != nil || e != api.ErrNone {
			t.Errorf("Parts(%v): %v, %d", p, l, e)
		}
	}
	if l, e := Parts(fine); l != nil || e != api.ErrFull {
		t.Errorf("Parts of large numbers: %v, %d", l, e)
	}
	for _, p := range bad() {
		if l, e := Parts(p); l != nil || e != api.ErrArg {
			t.Errorf("Parts(%v): %v, %d", p, l, e)
		}
	}
	samples(300, func(random *rand.Rand, p, q api.Poly) {
		l, e := Parts(p)
		if must(poly.Empty(p)) {
			if e != api.ErrNone {
				t.Fatalf("Parts(%v): %v, %d", p, l, e)
			}
			return
		}
		if !slices.EqualFunc(l, pieces(p), func(f api.Form, c api.Cond) bool { return reflect.DeepEqual(f, c.Form) && !c.Eq }) || e != api.OK {
			t.Fatalf("Parts(%v): %v, %d", p, l, e)
		}
	})
}

// P9.3: there may be more parts than conditions.
func TestManyParts(t *testing.T) {
	p := polyhedron(8)
	for v := range 6 {
		c := equal(0, make([]int, 8)...)
		c.Form.Coef[v] = 1
		p.Conds = append(p.Conds, c)
	}
	for k := range api.MaxConds - 6 { // tangents of a parabola
		p.Conds = append(p.Conds, least(k*k, 0, 0, 0, 0, 0, 0, -2*k, 1))
	}
	if l, e := Parts(p); len(l) != api.MaxConds+6 || e != api.OK || l[1].Coef[0] != -1 || l[12].Coef[7] != 1 {
		t.Errorf("%d parts, %d", len(l), e)
	}
	w, e := Widen(p, p)
	expect(t, "Widen of many parts", w, e, must(poly.Canon(p)), api.OK)
}

// P9.1
func TestWidenExamples(t *testing.T) {
	for _, c := range [][3]string{
		{"x >= 0, x <= 1", "x >= 0, x <= 2", "x >= 0"},
		{"x >= 0, x <= 1", "x >= 0, x <= 1", "-x + 1 >= 0, x >= 0"},
		{"x >= 0, x <= 1", "x >= -1, x <= 1", "-x + 1 >= 0"},
		{"x >= 0, x <= 1", "x >= -1, x <= 2", "true"},
		{"x >= 0, x <= 1", "true", "true"},
		{"true", "true", "true"},
		{"x = 0, y = 0", "x >= 0, x <= 1, y = x", "x - y = 0, y >= 0"},
		{"x = 0, y = 0", "x >= 0, y >= 0, x + y <= 4", "y >= 0, x >= 0"},
		{"x = 0, y = 0", "y >= x, y <= 3 x, x <= 9", "-x + y >= 0, 3 x - y >= 0"},
		{"x = 0, y = 0", "x + y >= 0, x <= 2, y <= 2", "x + y >= 0"},
		{"x = y, x >= 0, x <= 1", "y <= x, y >= 0, x <= 1", "-x + 1 >= 0, y >= 0, x - y >= 0"},
		{"x = y, x >= 0, x <= 1", "y <= x, y >= 0, x <= 2", "y >= 0, x - y >= 0"},
		{"x = y, x >= 0, x <= 1", "y >= 0, x <= 1, y <= 2 x, y <= 3", "-x + 1 >= 0, y >= 0, 2 x - y >= 0"},
		{"x >= 0, y >= 0, x + y <= 2", "x >= 0, y >= 0, x + y <= 2, x >= -1", "-x - y + 2 >= 0, y >= 0, x >= 0"},
		{"x >= 1, x <= 0", "2 x >= 4, y <= 3, y <= 4", "-y + 3 >= 0, x - 2 >= 0"},
		{"x >= 1, x <= 0", "y >= 1, y <= 0", "-1 >= 0"},
	} {
		w, e := Widen(read(c[0]), read(c[1]))
		expect(t, c[0]+" and "+c[1], w, e, read(c[2]), api.OK)
	}
	w, e := Widen(polyhedron(0), polyhedron(0, least(3)))
	expect(t, "no variables", w, e, polyhedron(0), api.OK)
	w, e = Widen(polyhedron(0, least(-3)), polyhedron(0, least(3)))
	expect(t, "no variables and no point", w, e, polyhedron(0), api.OK)
}

// inequalities returns the number of inequalities of a canonical form.
func inequalities(p api.Poly) int {
	n := 0
	for _, c := range p.Conds {
		if !c.Eq {
			n++
		}
	}
	return n
}

// P9.1, P9.4, P9.5
func TestWiden(t *testing.T) {
	equalRanks, standing := 0, 0
	samples(3000, func(random *rand.Rand, p, q api.Poly) {
		w, e := Widen(p, q)
		want, kept, replaced := widened(p, q)
		if !poly.Identical(w, want) || e != api.OK {
			t.Fatalf("Widen(%v, %v): %v, %d, not %v of %v and %v", p, q, w, e, want, kept, replaced)
		}
		if !contains(w, q) {
			t.Fatalf("Widen(%v, %v): %v", p, q, w)
		}
		if must(poly.Empty(p)) || must(poly.Equal(w, p)) {
			return
		}
		r, s := must(poly.Rank(p)), must(poly.Rank(w))
		if s < r || s == r && inequalities(w) >= inequalities(must(poly.Canon(p))) {
			t.Fatalf("no progress: Widen(%v, %v): %v", p, q, w)
		}
		if r == s {
			equalRanks++
		}
		if !must(poly.Equal(w, polyhedron(p.Dim, kept...))) {
			standing++
		}
	})
	if equalRanks < 200 || standing < 200 {
		t.Errorf("only %d samples with the same rank, %d with parts of the second polyhedron", equalRanks, standing)
	}
}

// P9.5: a growing sequence that is widened becomes constant.
func TestStable(t *testing.T) {
	random := rand.New(rand.NewSource(32))
	for range 100 {
		n := 1 + random.Intn(3)
		p := lump(random, n)
		for steps := 0; ; steps++ {
			w, e := Widen(p, above(random, p))
			if e != api.OK || steps > 200 {
				t.Fatalf("%d steps to %v, %d", steps, w, e)
			}
			if len(w.Conds) == 0 {
				break
			}
			p = w
		}
	}
}

// P9.2, P9.6
func TestUpto(t *testing.T) {
	tighter := 0
	samples(1500, func(random *rand.Rand, p, q api.Poly) {
		var l []api.Cond
		for range random.Intn(4) {
			l = append(l, sample(random, p.Dim, 1).Conds...)
			l = append(l, above(random, q).Conds...)
		}
		w, e := Upto(p, q, l)
		if want := limited(p, q, l); !poly.Identical(w, want) || e != api.OK {
			t.Fatalf("Upto(%v, %v, %v): %v, %d, not %v", p, q, l, w, e, want)
		}
		all := must(Widen(p, q))
		if !contains(w, q) || !contains(all, w) {
			t.Fatalf("Upto(%v, %v, %v): %v, Widen is %v", p, q, l, w, all)
		}
		if !poly.Identical(w, all) {
			tighter++
		}
		if w, e = Upto(p, q, nil); !poly.Identical(w, all) || e != api.OK {
			t.Fatalf("Upto(%v, %v): %v, %d, not %v", p, q, w, e, all)
		}
	})
	if tighter < 200 {
		t.Errorf("only %d samples with a limit", tighter)
	}
}

// P9.2
func TestUptoExamples(t *testing.T) {
	p, q := read("x >= 0, x <= 1, y = x"), read("x >= 0, x <= 2, y = x")
	for _, c := range []struct {
		limits, want string
	}{
		{"x <= 10", "x - y = 0, -y + 10 >= 0, y >= 0"},
		{"x <= 2, x <= 10", "x - y = 0, -y + 2 >= 0, y >= 0"},
		{"x <= 1", "x - y = 0, y >= 0"},
		{"x <= 1, y <= 7", "x - y = 0, -y + 7 >= 0, y >= 0"},
		{"x = y, x = 0, y = 2", "x - y = 0, y >= 0"},
		{"x + y = 2", "x - y = 0, y >= 0"},
		{"x + y <= 4, 0 >= 0, 0 = 0, 1 >= 0, 0 = 1, -1 >= 0", "x - y = 0, -y + 2 >= 0, y >= 0"},
	} {
		w, e := Upto(p, q, read(c.limits).Conds)
		expect(t, c.limits, w, e, read(c.want), api.OK)
	}
	w, e := Upto(read("x = 0, y = 0"), read("x = y"), read("2 x = 2 y, x >= y, x <= y").Conds)
	expect(t, "an equation as a limit", w, e, read("x - y = 0"), api.OK)
	w, e = Upto(none(2), none(2), read("x >= 5, x = 3").Conds)
	expect(t, "no points", w, e, none(2), api.OK)
	full := slices.Repeat(read("x <= 5, x <= 1").Conds, api.MaxConds/2)
	w, e = Upto(p, q, full)
	expect(t, "120 limits", w, e, read("x - y = 0, -y + 5 >= 0, y >= 0"), api.OK)
}

// P9.1, P9.2: only a result that is not valid is refused.
func TestFull(t *testing.T) {
	all := polyhedron(2)
	for _, c := range []struct {
		p, q, want api.Poly
		e          api.Errno
	}{
		{fine, fine, api.Poly{}, api.ErrFull},
		{none(2), fine, api.Poly{}, api.ErrFull},
		{fine, all, all, api.OK},
		{fine, wedge, must(poly.Canon(wedge)), api.OK},
		{fine, polyhedron(2, wedge.Conds[0]), polyhedron(2, wedge.Conds[0]), api.OK},
		{fine, read("x + y >= -1, x + y <= 1"), all, api.OK},
	} {
		w, e := Widen(c.p, c.q)
		expect(t, "Widen of large numbers", w, e, c.want, c.e)
		w, e = Upto(c.p, c.q, read("x = 7, 0 >= 0").Conds)
		expect(t, "Upto of large numbers", w, e, c.want, c.e)
	}
	w, e := Upto(fine, read("x + y >= -1, x + y <= 1"), wedge.Conds)
	expect(t, "Upto of limits that are not kept", w, e, all, api.OK)
	w, e = Upto(fine, wedge, fine.Conds)
	expect(t, "Upto of limits that are not kept", w, e, must(poly.Canon(wedge)), api.OK)
	w, e = Upto(fine, polyhedron(2, wedge.Conds[0]), wedge.Conds[:1])
	expect(t, "Upto of a limit that is kept", w, e, polyhedron(2, wedge.Conds[0]), api.OK)
}

// P9.1, P9.2
func TestKind(t *testing.T) {
	refused := func(p, q api.Poly) {
		t.Helper()
		w, e := Widen(p, q)
		expect(t, "Widen", w, e, api.Poly{}, api.ErrKind)
		w, e = Upto(p, q, read("x >= 0").Conds)
		expect(t, "Upto", w, e, api.Poly{}, api.ErrKind)
	}
	refused(read("x >= 0"), read("x >= 1"))
	refused(read("x >= 0"), read("x >= 0, y >= 0"))
	refused(read("x = 0, y = 0"), none(2))
	refused(polyhedron(2), none(2))
	refused(fine, read("x >= 1")) // with a point that is not valid
	refused(fine, none(2))
	random := rand.New(rand.NewSource(33))
	count := 0
	for range 500 {
		n := random.Intn(4)
		p, q := lump(random, n), sample(random, n, random.Intn(4))
		w, e := Widen(p, q)
		if contains(q, p) {
			want, _, _ := widened(p, q)
			expect(t, "Widen", w, e, want, api.OK)
			continue
		}
		count++
		expect(t, "Widen", w, e, api.Poly{}, api.ErrKind)
	}
	if count < 100 {
		t.Errorf("only %d samples are refused", count)
	}
}

// P9.1, P9.2: arguments that are not valid, in the order of the errors.
func TestRefuse(t *testing.T) {
	zero := api.Poly{}
	long := make([]api.Cond, api.MaxConds+1)
	for i := range long {
		long[i] = least(i, 1, 1)
	}
	for _, p := range bad() {
		for _, l := range [][2]api.Poly{{p, polyhedron(2)}, {polyhedron(2), p}, {p, none(3)}, {none(3), p}, {p, p}} {
			w, e := Widen(l[0], l[1])
			expect(t, "Widen", w, e, zero, api.ErrArg)
			w, e = Upto(l[0], l[1], append(long, least(0, 1)))
			expect(t, "Upto", w, e, zero, api.ErrArg)
		}
	}
	p, q := read("x >= 0"), read("x >= 1") // are of the wrong kind
	for _, c := range []api.Cond{
		least(most+1, 0, 0), equal(0, 0, -most-1), least(math.MinInt, 1, 1), least(0, math.MaxInt, 1), least(0, make([]int, api.MaxDim+1)...),
		least(0, most+1), equal(-most - 1),
	} {
		w, e := Upto(p, q, []api.Cond{least(0, 1), c})
		expect(t, "Upto", w, e, zero, api.ErrArg)
		w, e = Upto(p, none(3), append(slices.Clone(long), c))
		expect(t, "Upto", w, e, zero, api.ErrArg)
	}
	w, e := Widen(p, none(3))
	expect(t, "Widen", w, e, zero, api.ErrDim)
	w, e = Widen(none(0), polyhedron(1))
	expect(t, "Widen", w, e, zero, api.ErrDim)
	w, e = Upto(none(2), none(3), long)
	expect(t, "Upto", w, e, zero, api.ErrDim)
	for _, c := range []api.Cond{{}, least(0, 1), equal(0, 1, 1, 1), least(0, make([]int, api.MaxDim)...)} {
		w, e = Upto(p, q, []api.Cond{c})
		expect(t, "Upto", w, e, zero, api.ErrDim)
		w, e = Upto(p, q, append(slices.Clone(long), c))
		expect(t, "Upto", w, e, zero, api.ErrDim)
	}
	w, e = Upto(p, q, long)
	expect(t, "Upto", w, e, zero, api.ErrFull)
	w, e = Upto(q, p, long)
	expect(t, "Upto", w, e, zero, api.ErrFull)
	w, e = Upto(none(2), none(2), long)
	expect(t, "Upto", w, e, zero, api.ErrFull)
}

func copied(p api.Poly) api.Poly {
	out := polyhedron(p.Dim)
	for _, c := range p.Conds {
		out.Conds = append(out.Conds, api.Cond{Form: api.Form{Coef: slices.Clone(c.Form.Coef), Add: c.Form.Add}, Eq: c.Eq})
	}
	return out
}

func overwrite(p api.Poly) {
	for i, c := range p.Conds {
		c.Form.Coef = c.Form.Coef[:cap(c.Form.Coef)]
		for k := range c.Form.Coef {
			c.Form.Coef[k] = 78
		}
		p.Conds[i] = api.Cond{}
	}
}

// P9.1 to P9.3: results share no memory with arguments and other results, and
// arguments stay as they are.
func TestMemory(t *testing.T) {
	samples(300, func(random *rand.Rand, p, q api.Poly) {
		l := above(random, q).Conds
		old := []api.Poly{copied(p), copied(q), copied(polyhedron(p.Dim, l...))}
		all := func() []api.Poly {
			parts, _ := Parts(q)
			third := polyhedron(p.Dim)
			for _, f := range parts {
				third.Conds = append(third.Conds, api.Cond{Form: f})
			}
			return []api.Poly{must(Widen(p, q)), must(Upto(p, q, l)), third}
		}
		first, second := all(), all()
		for i, w := range first {
			kept := copied(second[i])
			overwrite(w)
			if !poly.Identical(second[i], kept) {
				t.Fatal("results share memory")
			}
		}
		for i, r := range []api.Poly{p, q, polyhedron(p.Dim, l...)} {
			if !poly.Identical(r, old[i]) {
				t.Fatalf("%v has become %v", old[i], r)
			}
		}
	})
	parts, _ := Parts(read("x = 0, y = 0"))
	parts[0].Coef[0] = 7
	if parts[1].Coef[0] != -1 {
		t.Error("parts share memory")
	}
}
