package frac

import (
	"testing"

	"floodmark/api"
	"floodmark/whole"
)

func of(top, low int) Frac { return New(whole.Of(top), whole.Of(low)) }

func checkNum(t *testing.T, name string, a Frac, top, low int) {
	t.Helper()
	if x, valid := a.Num(); !valid || x != (api.Num{Top: top, Low: low}) {
		t.Errorf("%s: %v, %t", name, x, valid)
	}
}

func TestReduced(t *testing.T) {
	checkNum(t, "6/4", of(6, 4), 3, 2)
	checkNum(t, "6/-4", of(6, -4), -3, 2)
	checkNum(t, "-6/-4", of(-6, -4), 3, 2)
	checkNum(t, "0/-7", of(0, -7), 0, 1)
	checkNum(t, "number", Of(api.Num{Top: -3, Low: 5}), -3, 5)
}

func TestOperations(t *testing.T) {
	a, b := of(1, 3), of(-1, 6)
	checkNum(t, "Plus", a.Plus(b), 1, 6)
	checkNum(t, "Minus", a.Minus(b), 1, 2)
	checkNum(t, "Times", a.Times(b), -1, 18)
	checkNum(t, "Over", a.Over(b), -2, 1)
	if a.Cmp(b) != 1 || b.Cmp(a) != -1 || a.Cmp(of(2, 6)) != 0 {
		t.Error("Cmp")
	}
	if a.Sign() != 1 || b.Sign() != -1 || of(0, 3).Sign() != 0 {
		t.Error("Sign")
	}
}

// The lows of these fractions have common divisors, which may or may not
// divide the sum.
func TestSumsAreReduced(t *testing.T) {
	checkNum(t, "1/6 + 1/10", of(1, 6).Plus(of(1, 10)), 4, 15)
	checkNum(t, "1/6 + 1/3", of(1, 6).Plus(of(1, 3)), 1, 2)
	checkNum(t, "1/6 + 1/6", of(1, 6).Plus(of(1, 6)), 1, 3)
	checkNum(t, "5/12 + 7/12", of(5, 12).Plus(of(7, 12)), 1, 1)
	checkNum(t, "5/12 - 5/12", of(5, 12).Minus(of(5, 12)), 0, 1)
	checkNum(t, "1/4 - 1/6", of(1, 4).Minus(of(1, 6)), 1, 12)
}

func TestLimits(t *testing.T) {
	checkNum(t, "greatest", of(api.MaxNum, 1), api.MaxNum, 1)
	checkNum(t, "least", of(-api.MaxNum, 1), -api.MaxNum, 1)
	checkNum(t, "finest", of(1, api.MaxNum), 1, api.MaxNum)
	for _, a := range []Frac{of(api.MaxNum+1, 1), of(-api.MaxNum-1, 1), of(1, api.MaxNum+1)} {
		if x, valid := a.Num(); valid || x != (api.Num{}) {
			t.Errorf("%v, %t", x, valid)
		}
	}
	big := of(api.MaxNum, api.MaxNum-1)
	square := big.Times(big)
	if _, valid := square.Num(); valid {
		t.Error("a square beyond the limits is valid")
	}
	checkNum(t, "back", square.Over(big), api.MaxNum, api.MaxNum-1)
}

func TestNums(t *testing.T) {
	l, valid := Nums([]Frac{of(6, 4), of(0, 1), of(-1, 3)})
	want := []api.Num{{Top: 3, Low: 2}, {Low: 1}, {Top: -1, Low: 3}}
	if !valid || len(l) != 3 || l[0] != want[0] || l[1] != want[1] || l[2] != want[2] {
		t.Errorf("%v, %t", l, valid)
	}
	if l, valid := Nums([]Frac{of(1, 2), of(api.MaxNum+1, 1)}); valid || l != nil {
		t.Errorf("%v, %t", l, valid)
	}
}

func TestCommon(t *testing.T) {
	tops, low := Common([]api.Num{{Top: 1, Low: 4}, {Top: -5, Low: 6}, {Top: 7, Low: 1}})
	if len(tops) != 3 || !tops[0].Equal(whole.Of(3)) || !tops[1].Equal(whole.Of(-10)) || !tops[2].Equal(whole.Of(84)) || !low.Equal(whole.Of(12)) {
		t.Errorf("%v, %v", tops, low)
	}
	if tops, low := Common(nil); len(tops) != 0 || !low.Equal(whole.Of(1)) {
		t.Errorf("%v, %v", tops, low)
	}
	long, short := api.Num{Top: 1, Low: api.MaxNum}, api.Num{Top: 1, Low: api.MaxNum - 1}
	tops, low = Common([]api.Num{long, short})
	if !tops[0].Equal(whole.Of(short.Low)) || !tops[1].Equal(whole.Of(long.Low)) || !low.Equal(tops[0].Times(tops[1])) {
		t.Errorf("%v, %v", tops, low)
	}
}

func TestTops(t *testing.T) {
	long := of(1, api.MaxNum).Times(of(1, 3))
	tops, low := Tops([]Frac{of(1, 2), long, of(-1, 3)})
	want := whole.Of(api.MaxNum).Times(whole.Of(3))
	if !low.Equal(want) || !tops[0].Plus(tops[0]).Equal(want) || !tops[1].Equal(whole.Of(1)) || !tops[2].Equal(whole.Of(-api.MaxNum)) {
		t.Errorf("%v, %v", tops, low)
	}
	if tops, low := Tops(nil); len(tops) != 0 || !low.Equal(whole.Of(1)) {
		t.Errorf("%v, %v", tops, low)
	}
}
