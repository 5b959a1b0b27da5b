package cone

import (
	"reflect"
	"slices"
	"testing"

	"floodmark/api"
	"floodmark/rows"
	"floodmark/shape"
	"floodmark/simplex"
	"floodmark/whole"
)

func row(l ...int) rows.Row {
	var r rows.Row
	for _, x := range l {
		r = append(r, whole.Of(x))
	}
	return r
}

func least(l ...int) simplex.Cond { return simplex.Cond{Row: row(l...)} }

func equal(l ...int) simplex.Cond { return simplex.Cond{Row: row(l...), Eq: true} }

// sameRows reports whether both lists have the same rows, in any order.
func sameRows(l, m []rows.Row) bool {
	within := func(l, m []rows.Row) bool {
		return !slices.ContainsFunc(l, func(r rows.Row) bool { return !slices.ContainsFunc(m, r.Equal) })
	}
	return len(l) == len(m) && within(l, m) && within(m, l)
}

func check(t *testing.T, name string, got, want Cone) {
	t.Helper()
	if !sameRows(got.Rays, want.Rays) || !slices.EqualFunc(got.Lines, want.Lines, rows.Row.Equal) {
		t.Errorf("%s: %v, not %v", name, got, want)
	}
}

func TestOf(t *testing.T) {
	for _, c := range []struct {
		n     int
		conds []simplex.Cond
		want  Cone
	}{
		{0, nil, Cone{Rays: []rows.Row{row(1)}}},
		{0, []simplex.Cond{least(-1)}, Cone{}},
		{1, nil, Cone{Rays: []rows.Row{row(0, 1)}, Lines: []rows.Row{row(1, 0)}}},
		{1, []simplex.Cond{least(2, -1), least(-1, 3)}, Cone{Rays: []rows.Row{row(1, 2), row(3, 1)}}},
		{1, []simplex.Cond{least(1, -2), least(-1, 1)}, Cone{}},
		{2, []simplex.Cond{least(1, 0, -2), least(-1, 0, 1), least(0, 1, 0)}, Cone{}}, // not even the ray (0, 1)
		{2, []simplex.Cond{equal(0, 0, 1)}, Cone{}},
		{2, []simplex.Cond{least(1, 0, 0), least(0, 1, 0), least(1, 1, -2)}, Cone{Rays: []rows.Row{row(0, 2, 1), row(2, 0, 1), row(0, 1, 0), row(1, 0, 0)}}},
		{2, []simplex.Cond{least(2, 2, -3)}, Cone{Rays: []rows.Row{row(0, 3, 2), row(0, 1, 0)}, Lines: []rows.Row{row(1, -1, 0)}}},
		{2, []simplex.Cond{least(0, 1, 0), equal(1, 1, -3), least(1, 0, 0), equal(2, 2, -6)}, Cone{Rays: []rows.Row{row(0, 3, 1), row(3, 0, 1)}}},
		{2, []simplex.Cond{least(1, 0, 0), least(-1, 0, 0), least(0, 1, 1)}, Cone{Rays: []rows.Row{row(0, -1, 1), row(0, 1, 0)}}},
	} {
		got, fits := Of(c.n, c.conds)
		check(t, "Of", got, c.want)
		if !fits || got.HasPoints() != slices.ContainsFunc(c.want.Rays, func(r rows.Row) bool { return r.Add().Sign() > 0 }) {
			t.Errorf("Of(%d, %v): %t, %t", c.n, c.conds, fits, got.HasPoints())
		}
	}
}

// Conditions of any size have the corners that exact arithmetic finds.
func TestLargeNumbers(t *testing.T) {
	huge := whole.Decimal("123456789012345678901234567890")
	less := huge.Minus(whole.Of(1))
	got, fits := Of(1, []simplex.Cond{{Row: rows.Row{huge, less.Neg()}}})
	check(t, "Of", got, Cone{Rays: []rows.Row{{less, huge}, row(1, 0)}})
	if !fits {
		t.Error("too many rays")
	}
}

// The most rays that the layers promise to handle: conditions of which each
// few meet in a ray (here those on points of a curve).
func TestManyRays(t *testing.T) {
	for _, c := range []struct{ n, conds, rays int }{{5, 25, 275}, {4, 275, 546}, {3, 546, 546}} {
		var conds []simplex.Cond
		for i := range c.conds {
			r := rows.Row{whole.Of(1)}
			for range c.n - 1 {
				r = append(r, r[len(r)-1].Times(whole.Of(i-c.conds/2)))
			}
			conds = append(conds, simplex.Cond{Row: r})
		}
		if got, fits := generated(c.n, conds); len(got.Rays) != c.rays || len(got.Lines) != 0 || !fits {
			t.Errorf("%d conditions on %d variables: %d rays, %t", c.conds, c.n, len(got.Rays), fits)
		}
	}
}

func TestTooManyRays(t *testing.T) {
	var conds []simplex.Cond
	for i := range 11 { // a cube with 2^11 corners
		low, high := rows.Unit(12, i), rows.Unit(12, i).Neg()
		high[11] = whole.Of(1)
		conds = append(conds, simplex.Cond{Row: low}, simplex.Cond{Row: high})
	}
	if c, fits := generated(12, conds); fits || c.Rays != nil || c.Lines != nil {
		t.Errorf("%d rays, %t", len(c.Rays), fits)
	}
}

func TestCanon(t *testing.T) {
	c := Cone{
		Rays:  []rows.Row{row(6, 2, 2, 2), row(0, 0, 0, 3), row(1, 1, 0, 1), row(0, 0, 5, 0), row(0, 0, -1, 0), row(2, 0, 0, 0), row(0, 0, 0, 1)},
		Lines: []rows.Row{row(0, -2, 2, 0)},
	}
	check(t, "Canon", c.Canon(3), Cone{Rays: []rows.Row{row(0, 0, 0, 1), row(1, 0, 0, 0)}, Lines: []rows.Row{row(0, 1, 0, 0), row(0, 0, 1, 0)}})
	check(t, "Canon of nothing", Cone{}.Canon(3), Cone{})
	var axes Cone
	for i := range api.MaxDim + 1 {
		axes.Rays = append(axes.Rays, rows.Unit(api.MaxDim+1, i))
	}
	check(t, "Canon in all variables", axes.Canon(api.MaxDim), axes)
}

func TestPoly(t *testing.T) {
	c := Cone{Rays: []rows.Row{row(0, 0, 1), row(4, 0, 2), row(0, 2, 1), row(1, 1, 2)}}
	p, e := c.Poly(2)
	if e != api.OK || p.Dim != 2 || len(p.Conds) != 3 || p.Conds[0].Form.Add != 2 {
		t.Errorf("%v, %d", p, e)
	}
	p, e = Cone{Rays: []rows.Row{row(1, 0, 0)}}.Poly(2)
	if e != api.OK || len(p.Conds) != 1 || p.Conds[0].Form.Add != -1 {
		t.Errorf("only a direction: %v, %d", p, e)
	}
}

func TestMerge(t *testing.T) {
	a := Cone{Rays: []rows.Row{row(0, 1)}, Lines: []rows.Row{row(1, 0)}}
	b := Cone{Rays: []rows.Row{row(3, 1), row(2, 0)}}
	check(t, "Merge", Merge(a, Cone{}, b), Cone{Rays: []rows.Row{row(0, 1), row(3, 1), row(2, 0)}, Lines: []rows.Row{row(1, 0)}})
	check(t, "Merge of nothing", Merge(), Cone{})
	check(t, "Map", Merge(a, b).Map(rows.Row.Neg), Cone{Rays: []rows.Row{row(0, -1), row(-3, -1), row(-2, 0)}, Lines: []rows.Row{row(-1, 0)}})
}

// All conditions, and those of the same points.
func TestConds(t *testing.T) {
	c := Cone{Rays: []rows.Row{row(0, 0, 1), row(4, 4, 2), row(1, 1, 1), row(3, 3, 0)}}
	l, fits := c.Conds(2)
	d, fitsToo := Of(2, l)
	if !fits || !fitsToo || len(l) < 2 || !l[0].Eq || !l[0].Row.Equal(row(1, -1, 0)) {
		t.Errorf("%v, %t", l, fits)
	}
	check(t, "Of the conditions", d, Cone{Rays: []rows.Row{row(0, 0, 1), row(1, 1, 0)}})
}

func TestSum(t *testing.T) {
	square := Cone{Rays: []rows.Row{row(0, 0, 1), row(1, 0, 1), row(0, 1, 1), row(1, 1, 1)}}
	turned := Cone{Rays: []rows.Row{row(1, 0, 2), row(0, 1, 2), row(-1, 0, 2), row(0, -1, 2)}}
	p, e := square.Sum(2, turned)
	want := api.Poly{Dim: 2}
	for _, l := range [][3]int{{-2, -2, 5}, {-2, 0, 3}, {-2, 2, 3}, {0, -2, 3}, {0, 2, 1}, {2, -2, 3}, {2, 0, 1}, {2, 2, 1}} {
		want.Conds = append(want.Conds, api.Cond{Form: api.Form{Coef: l[:2], Add: l[2]}})
	}
	if e != api.OK || !reflect.DeepEqual(p, want) {
		t.Errorf("%v, %d; not %v", p, e, want)
	}
	// Both numbers of an equation and of its inequalities are added up, and
	// what divides the sums is left out.
	up := Cone{Rays: []rows.Row{row(0, 1, 2), row(0, 1, 0)}}
	p, e = up.Sum(2, up)
	want = api.Poly{Dim: 2, Conds: []api.Cond{{Form: api.Form{Coef: []int{1, 0}}, Eq: true}, {Form: api.Form{Coef: []int{0, 1}, Add: -1}}}}
	if e != api.OK || !reflect.DeepEqual(p, want) {
		t.Errorf("%v, %d; not %v", p, e, want)
	}
	for _, l := range [][2]Cone{{{}, square}, {square, {}}, {{Rays: []rows.Row{row(1, 0, 0)}}, square}} {
		if p, e := l[0].Sum(2, l[1]); e != api.OK || !reflect.DeepEqual(p, shape.None(2)) {
			t.Errorf("Sum with an empty polyhedron: %v, %d", p, e)
		}
	}
}

// In all variables that polyhedra may have, with a line in each of them.
func TestSumOfLines(t *testing.T) {
	const n = api.MaxDim
	for lines := range n + 1 {
		c := Cone{Rays: []rows.Row{rows.Unit(n+1, n)}}
		for i := range lines {
			c.Lines = append(c.Lines, rows.Unit(n+1, i))
		}
		if p, e := c.Sum(n, c); e != api.OK || len(p.Conds) != n-lines {
			t.Errorf("%d lines: %v, %d", lines, p, e)
		}
	}
}

func TestPoints(t *testing.T) {
	x := []api.Num{{Top: 1, Low: 2}, {Top: -2, Low: 3}}
	if r := Row(x); !r.Equal(row(3, -4, 6)) {
		t.Errorf("%v", r)
	}
	for i, a := range Point(row(6, -8, 12)) {
		if b, fits := a.Num(); b != x[i] || !fits {
			t.Errorf("%v", b)
		}
	}
	if r, l := Row(nil), Point(row(3)); !r.Equal(row(1)) || len(l) != 0 {
		t.Errorf("%v, %v", r, l)
	}
}

// Conditions that follow from those before them cost nothing later.
func TestNeedless(t *testing.T) {
	d := double{n: 2, lines: []rows.Row{row(1, 0), row(0, 1)}}
	for i, c := range []struct{ x, y, done int }{{1, 0, 1}, {2, 0, 1}, {0, 1, 2}, {1, 1, 2}, {3, 0, 2}, {1, -1, 3}, {2, -1, 3}, {1, -2, 4}} {
		if !d.add(least(c.x, c.y)) || d.done != c.done {
			t.Errorf("condition %d: %d conditions count", i, d.done)
		}
	}
	check(t, "cone", d.cone(), Cone{Rays: []rows.Row{row(1, 0), row(2, 1)}})
}

func TestShares(t *testing.T) {
	c := Cone{Rays: []rows.Row{row(0, 0, 1), row(2, 0, 1)}, Lines: []rows.Row{row(0, 3, 0)}}
	l, is := c.Shares(2, row(1, -2, 1))
	if !is || len(l) != 3 {
		t.Fatalf("%v, %t", l, is)
	}
	for i, want := range []api.Num{{Top: 1, Low: 2}, {Top: 1, Low: 2}, {Top: -2, Low: 3}} {
		if got, fits := l[i].Num(); got != want || !fits {
			t.Errorf("share %d: %v", i, got)
		}
	}
	for _, r := range []rows.Row{row(3, 0, 1), row(-1, 0, 1), row(0, 0, -1), row(1, 0, 0)} {
		if l, is := c.Shares(2, r); is || l != nil {
			t.Errorf("shares of %v: %v", r, l)
		}
	}
}

// The sets of zeros have as many words as they need.
func TestZeros(t *testing.T) {
	var x, none zeros
	y := firstZeros(100)
	for i := 0; i < 130; i += 3 {
		x.put(i)
	}
	if n := x.shared(y); n != 34 || y.shared(x) != n {
		t.Errorf("%d shared conditions", n)
	}
	both := x.and(y)
	if both.shared(both) != 34 || both.shared(x) != 34 || !both.covers(x, y) || !both.covers(y, x) {
		t.Error("the common conditions")
	}
	for _, i := range []int{0, 63, 66, 99} {
		z := x.and(y)
		z[i/wordBits] &^= 1 << (i % wordBits)
		if z.covers(x, y) {
			t.Errorf("without condition %d", i)
		}
	}
	if !none.covers(x, none) || !none.covers(none, y) || none.covers(x, y) || none.shared(x) != 0 || len(x.and(none)) != 0 {
		t.Error("the empty set")
	}
	if first := x[:1]; first.covers(x, y) || !first.covers(x, firstZeros(64)) || first.covers(x, firstZeros(67)) {
		t.Error("a set with fewer words")
	}
}

func TestWorklist(t *testing.T) {
	var work worklist[string]
	work.add("a")
	work.add("b")
	for _, want := range []string{"a", "b"} {
		if item, is := work.next(); item != want || !is {
			t.Errorf("%q, %t", item, is)
		}
	}
	if item, is := work.next(); item != "" || is {
		t.Errorf("%q, %t", item, is)
	}
	conds := []simplex.Cond{least(1), equal(2), least(3), equal(4)}
	work2 := ordered(conds)
	for _, i := range []int{1, 3, 0, 2} {
		if c, is := work2.next(); !is || !c.Row.Equal(conds[i].Row) {
			t.Errorf("%v, not condition %d", c, i)
		}
	}
}
