package rows

import (
	"testing"

	"floodmark/api"
	"floodmark/whole"
)

func row(l ...int) Row {
	var r Row
	for _, x := range l {
		r = append(r, whole.Of(x))
	}
	return r
}

func check(t *testing.T, name string, got, want Row) {
	t.Helper()
	if !got.Equal(want) {
		t.Errorf("%s: %v, not %v", name, got, want)
	}
}

func TestRows(t *testing.T) {
	r := row(4, -6, 0, 10)
	check(t, "Of", Of(api.Form{Coef: []int{4, -6, 0}, Add: 10}), r)
	check(t, "Unit", Unit(3, 1), row(0, 1, 0))
	check(t, "Primitive", r.Primitive(), row(2, -3, 0, 5))
	check(t, "Primitive of 0", row(0, 0).Primitive(), row(0, 0))
	check(t, "Primitive of -3", row(0, -3).Primitive(), row(0, -1))
	check(t, "Neg", r.Neg(), row(-4, 6, 0, -10))
	check(t, "Times", r.Times(whole.Of(-3)), row(-12, 18, 0, -30))
	check(t, "Plus", r.Plus(row(1, 2, 3, 4)), row(5, -4, 3, 14))
	if r.Equal(row(4, -6, 0)) || r.Equal(row(4, -6, 0, 11)) {
		t.Error("Equal")
	}
	if r.IsConstant() || !row(0, 0, 5).IsConstant() || !row(0).IsConstant() {
		t.Error("IsConstant")
	}
	if !r.Add().Equal(whole.Of(10)) {
		t.Error("Add")
	}
	if !r.Along(row(1, 2, 3)).Equal(whole.Of(-8)) || !r.At(row(1, 2, 3), whole.Of(7)).Equal(whole.Of(62)) {
		t.Error("Along or At")
	}
	check(t, "the row", r, row(4, -6, 0, 10))
}

func TestLimits(t *testing.T) {
	if f, fits := row(api.MaxNum, -api.MaxNum, 3).Form(); !fits || f.Coef[0] != api.MaxNum || f.Coef[1] != -api.MaxNum || f.Add != 3 {
		t.Errorf("%v, %t", f, fits)
	}
	for _, r := range []Row{row(api.MaxNum+1, 0), row(0, -api.MaxNum-1)} {
		if f, fits := r.Form(); fits || f.Coef != nil || f.Add != 0 {
			t.Errorf("%v, %t", f, fits)
		}
		if l, fits := Ints(r); fits || l != nil {
			t.Errorf("%v, %t", l, fits)
		}
	}
}

func TestSystem(t *testing.T) {
	s := SystemOf(3, []Row{row(0, 2, 4, 6), row(-1, 1, 0, 0), row(-1, 2, 2, 3)})
	if !s.Solvable() {
		t.Error("Solvable")
	}
	rows := s.Rows()
	if len(rows) != 2 || len(s.Leading()) != 2 || s.Leading()[1] != 1 {
		t.Fatal(rows)
	}
	check(t, "first", rows[0], row(1, 0, 2, 3))
	check(t, "second", rows[1], row(0, 1, 2, 3))
	check(t, "Row", s.Row(1), rows[1])
	check(t, "Reduce", s.Reduce(row(-1, 0, 0, 1)), row(0, 0, 1, 2))
	check(t, "Reduce of a sum", s.Reduce(row(3, 3, 12, 18)), row(0, 0, 0, 0))
	check(t, "Reduce of a multiple", s.Reduce(row(0, 0, -6, 3)), row(0, 0, -2, 1))
	if u := SystemOf(3, []Row{row(2, -2, 0, 0), row(1, 0, 2, 3)}); !s.Same(&u) || !u.Same(&s) {
		t.Error("Same")
	}
	if u := SystemOf(3, []Row{row(2, -2, 0, 0), row(1, 0, 2, 4)}); s.Same(&u) || u.Same(&s) {
		t.Error("Same as another one")
	}
	none := SystemOf(1, []Row{row(1, 2), row(1, 3)})
	other := SystemOf(1, []Row{row(0, 9)})
	if none.Solvable() || other.Solvable() || !none.Same(&other) || none.Same(&s) {
		t.Error("systems without solution")
	}
}

// A leading integer that was negative must not turn an inequality round.
func TestReduceKeepsSigns(t *testing.T) {
	s := SystemOf(2, []Row{row(-3, 1, 4)})
	check(t, "Reduce", s.Reduce(row(2, 0, 0)), row(0, 1, 4))
	check(t, "Reduce", s.Reduce(row(-2, 0, 0)), row(0, -1, -4))
}
