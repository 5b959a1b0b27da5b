package num

import (
	"math"
	"math/big"
	"math/rand"
	"slices"
	"strings"
	"testing"

	"floodmark/api"
)

var invalid = []api.Num{
	{}, {Top: 1}, {Top: 1, Low: -1}, {Top: 0, Low: 2}, {Top: 2, Low: 4}, {Top: -6, Low: 3},
	{Top: api.MaxNum + 1, Low: 1}, {Top: -api.MaxNum - 1, Low: 1}, {Top: 1, Low: api.MaxNum + 1},
	{Top: math.MinInt, Low: 1}, {Top: math.MaxInt, Low: math.MaxInt}, {Top: 1, Low: math.MinInt},
	{Top: math.MinInt, Low: math.MinInt}, {Top: math.MinInt, Low: math.MaxInt},
}

// samples returns valid numbers: small ones, and ones at the limits.
func samples() []api.Num {
	var out []api.Num
	add := func(top, low int) {
		if a := (api.Num{Top: top, Low: low}); Valid(a) {
			out = append(out, a)
		}
	}
	for top := -4; top <= 4; top++ {
		for low := 1; low <= 3; low++ {
			add(top, low)
		}
	}
	for _, big := range []int{api.MaxNum, api.MaxNum - 1, 1<<30 + 1} {
		add(big, 1)
		add(-big, 3)
		add(1, big)
		add(-7, big)
		add(big, api.MaxNum-3)
		add(-big, 1<<59-1)
	}
	random := rand.New(rand.NewSource(2))
	for range 20 {
		add(random.Intn(api.MaxNum)-api.MaxNum/2, 1+random.Intn(api.MaxNum))
		add(random.Intn(200)-100, 1+random.Intn(100))
	}
	return out
}

func toRat(a api.Num) *big.Rat { return big.NewRat(int64(a.Top), int64(a.Low)) }

// expect checks a result against the number that it should be.
func expect(t *testing.T, name string, got api.Num, e api.Errno, want *big.Rat) {
	t.Helper()
	limit := big.NewInt(api.MaxNum)
	if want.Num().CmpAbs(limit) > 0 || want.Denom().Cmp(limit) > 0 {
		if e != api.ErrFull || got != (api.Num{}) {
			t.Errorf("%s: %v, %d, but %v is not valid", name, got, e, want)
		}
		return
	}
	if e != api.OK || int64(got.Top) != want.Num().Int64() || int64(got.Low) != want.Denom().Int64() {
		t.Errorf("%s: %v, %d, not %v", name, got, e, want)
	}
}

func expectError(t *testing.T, name string, got api.Num, e, want api.Errno) {
	t.Helper()
	if e != want || got != (api.Num{}) {
		t.Errorf("%s: %v, %d, not the error %d alone", name, got, e, want)
	}
}

// P1.1
func TestValid(t *testing.T) {
	for _, a := range []api.Num{{Low: 1}, {Top: 1, Low: 1}, {Top: -3, Low: 2},
		{Top: api.MaxNum, Low: 1}, {Top: -api.MaxNum, Low: 1}, {Top: -1, Low: api.MaxNum},
		{Top: api.MaxNum - 1, Low: api.MaxNum}, {Top: api.MaxNum, Low: api.MaxNum - 1}} {
		if !Valid(a) {
			t.Errorf("%v is valid", a)
		}
	}
	for _, a := range invalid {
		if Valid(a) {
			t.Errorf("%v is not valid", a)
		}
	}
}

// P1.2
func TestMake(t *testing.T) {
	ints := []int{1, -1, 2, -6, 4, 9, api.MaxNum, -api.MaxNum, api.MaxNum + 1, 2 * api.MaxNum,
		math.MaxInt, math.MinInt, math.MinInt + 1, 8, -8, 7, 5}
	for _, low := range ints {
		for _, top := range append(ints, 0) {
			a, e := Make(top, low)
			expect(t, "Make", a, e, big.NewRat(int64(top), int64(low)))
		}
	}
	for _, top := range append(ints, 0) {
		a, e := Make(top, 0)
		expectError(t, "Make with 0", a, e, api.ErrRange)
	}
	if a, e := Make(math.MinInt, -8); a != (api.Num{Top: api.MaxNum, Low: 1}) || e != api.OK {
		t.Errorf("Make of the least int: %v, %d", a, e)
	}
}

// P1.3
func TestOperations(t *testing.T) {
	for _, a := range samples() {
		for _, b := range samples() {
			x, y := toRat(a), toRat(b)
			got, e := Add(a, b)
			expect(t, "Add", got, e, new(big.Rat).Add(x, y))
			got, e = Sub(a, b)
			expect(t, "Sub", got, e, new(big.Rat).Sub(x, y))
			got, e = Mul(a, b)
			expect(t, "Mul", got, e, new(big.Rat).Mul(x, y))
			got, e = Div(a, b)
			if b.Top == 0 {
				expectError(t, "Div by 0", got, e, api.ErrNone)
			} else {
				expect(t, "Div", got, e, new(big.Rat).Quo(x, y))
			}
		}
	}
}

// P1.3
func TestOperationsRefuse(t *testing.T) {
	operations := []func(a, b api.Num) (api.Num, api.Errno){Add, Sub, Mul, Div, Between}
	for i, operation := range operations {
		for _, a := range invalid {
			for _, b := range []api.Num{{Low: 1}, {Top: 3, Low: 2}, a} {
				got, e := operation(a, b)
				expectError(t, "left of operation "+string(rune('0'+i)), got, e, api.ErrArg)
				got, e = operation(b, a)
				expectError(t, "right of operation "+string(rune('0'+i)), got, e, api.ErrArg)
			}
		}
	}
}

// P1.4
func TestCmp(t *testing.T) {
	for _, a := range samples() {
		for _, b := range samples() {
			if got, e := Cmp(a, b); got != toRat(a).Cmp(toRat(b)) || e != api.OK {
				t.Errorf("Cmp of %v and %v: %d, %d", a, b, got, e)
			}
		}
		for _, b := range invalid {
			if got, e := Cmp(a, b); got != 0 || e != api.ErrArg {
				t.Errorf("Cmp of %v and %v: %d, %d", a, b, got, e)
			}
			if got, e := Cmp(b, a); got != 0 || e != api.ErrArg {
				t.Errorf("Cmp of %v and %v: %d, %d", b, a, got, e)
			}
		}
	}
}

// P1.5
func TestFloorAndCeil(t *testing.T) {
	for _, a := range samples() {
		down, e := Floor(a)
		up, f := Ceil(a)
		if e != api.OK || f != api.OK {
			t.Errorf("%v: errors %d and %d", a, e, f)
		}
		low, high := big.NewRat(int64(down), 1), big.NewRat(int64(up), 1)
		one := big.NewRat(1, 1)
		if low.Cmp(toRat(a)) > 0 || low.Add(low, one).Cmp(toRat(a)) <= 0 {
			t.Errorf("Floor of %v: %d", a, down)
		}
		if high.Cmp(toRat(a)) < 0 || high.Sub(high, one).Cmp(toRat(a)) >= 0 {
			t.Errorf("Ceil of %v: %d", a, up)
		}
	}
	for _, a := range invalid {
		if down, e := Floor(a); down != 0 || e != api.ErrArg {
			t.Errorf("Floor of %v: %d, %d", a, down, e)
		}
		if up, e := Ceil(a); up != 0 || e != api.ErrArg {
			t.Errorf("Ceil of %v: %d, %d", a, up, e)
		}
	}
}

// search returns what Between should return, if its Low is at most 40.
func search(a, b api.Num) (api.Num, bool) {
	for low := 1; low <= 40; low++ {
		least := new(big.Rat).Mul(toRat(a), big.NewRat(int64(low), 1))
		most := new(big.Rat).Mul(toRat(b), big.NewRat(int64(low), 1))
		var found []int
		for top := -400; top <= 400; top++ {
			x := big.NewRat(int64(top), 1)
			if x.Cmp(least) >= 0 && x.Cmp(most) <= 0 {
				found = append(found, top)
			}
		}
		if len(found) > 0 {
			slices.SortFunc(found, func(x, y int) int { return max(x, -x) - max(y, -y) })
			return api.Num{Top: found[0], Low: low}, true
		}
	}
	return api.Num{}, false
}

// P1.6, P1.10
func TestBetween(t *testing.T) {
	var list []api.Num
	for _, low := range []int{1, 2, 3, 7, 10, 13, 29} {
		for _, top := range []int{-95, -41, -20, -13, -6, -3, -1, 0, 1, 2, 5, 17, 30, 43, 99} {
			if a := (api.Num{Top: top, Low: low}); Valid(a) {
				list = append(list, a)
			}
		}
	}
	for _, a := range list {
		for _, b := range list {
			got, e := Between(a, b)
			if toRat(a).Cmp(toRat(b)) > 0 {
				expectError(t, "Between", got, e, api.ErrRange)
				continue
			}
			if want, found := search(a, b); !found || got != want || e != api.OK {
				t.Errorf("Between of %v and %v: %v, %d, not %v", a, b, got, e, want)
			}
		}
	}
}

// P1.6, P1.10
func TestBetweenAtTheLimits(t *testing.T) {
	const m = api.MaxNum
	for _, c := range [][3]api.Num{
		{{Top: 3, Low: 10}, {Top: 2, Low: 5}, {Top: 1, Low: 3}},
		{{Top: -3, Low: 2}, {Top: 7, Low: 1}, {Low: 1}},
		{{Top: -m, Low: 1}, {Top: m, Low: 1}, {Low: 1}},
		{{Top: m - 1, Low: 1}, {Top: m, Low: 1}, {Top: m - 1, Low: 1}},
		{{Top: -m, Low: 1}, {Top: 1 - m, Low: 1}, {Top: 1 - m, Low: 1}},
		{{Top: 1, Low: m}, {Top: 1, Low: m}, {Top: 1, Low: m}},
		{{Top: 1, Low: m}, {Top: 1, Low: m - 1}, {Top: 1, Low: m - 1}},
		{{Top: m - 1, Low: m}, {Top: m - 1, Low: m}, {Top: m - 1, Low: m}},
		{{Top: m - 2, Low: m - 1}, {Top: m - 1, Low: m}, {Top: m - 2, Low: m - 1}},
		{{Top: 1 - m, Low: m}, {Top: 2 - m, Low: m - 1}, {Top: 2 - m, Low: m - 1}},
		{{Top: -5, Low: 2}, {Top: -1, Low: 2}, {Top: -1, Low: 1}},
		{{Top: m, Low: m - 1}, {Top: m - 1, Low: m - 2}, {Top: m - 1, Low: m - 2}},
	} {
		if got, e := Between(c[0], c[1]); got != c[2] || e != api.OK {
			t.Errorf("Between of %v and %v: %v, %d, not %v", c[0], c[1], got, e, c[2])
		}
	}
	for _, a := range samples() {
		for _, b := range samples() {
			got, e := Between(a, b)
			if toRat(a).Cmp(toRat(b)) > 0 {
				expectError(t, "Between", got, e, api.ErrRange)
			} else if e != api.OK || !Valid(got) || got.Low > min(a.Low, b.Low) ||
				toRat(got).Cmp(toRat(a)) < 0 || toRat(got).Cmp(toRat(b)) > 0 {
				t.Errorf("Between of %v and %v: %v, %d", a, b, got, e)
			}
		}
	}
}

// P1.7
func TestDot(t *testing.T) {
	random := rand.New(rand.NewSource(3))
	list := samples()
	for range 500 {
		var l, m []api.Num
		sum := new(big.Rat)
		for range random.Intn(6) {
			a, b := list[random.Intn(len(list))], list[random.Intn(len(list))]
			l, m = append(l, a), append(m, b)
			sum.Add(sum, new(big.Rat).Mul(toRat(a), toRat(b)))
		}
		before := slices.Clone(l)
		got, e := Dot(l, m)
		expect(t, "Dot", got, e, sum)
		if !slices.Equal(l, before) {
			t.Fatal("Dot changes its argument")
		}
	}
}

// P1.7: only the sum has a limit.
func TestDotBeyondLimits(t *testing.T) {
	m := api.Num{Top: api.MaxNum, Low: 1}
	fine := api.Num{Top: 1, Low: api.MaxNum - 1}
	got, e := Dot([]api.Num{m, fine, m, m}, []api.Num{m, fine, {Top: -api.MaxNum, Low: 1}, fine})
	sum := new(big.Rat).Mul(toRat(fine), toRat(fine))
	expect(t, "Dot", got, e, sum.Add(sum, new(big.Rat).Mul(toRat(m), toRat(fine))))
	got, e = Dot([]api.Num{m, fine, m, fine}, []api.Num{m, fine, {Top: -api.MaxNum, Low: 1}, {Top: -1, Low: api.MaxNum - 1}})
	expect(t, "Dot", got, e, new(big.Rat))
}

// P1.7
func TestDotErrors(t *testing.T) {
	one := api.Num{Top: 1, Low: 1}
	if got, e := Dot(nil, []api.Num{}); got != (api.Num{Low: 1}) || e != api.OK {
		t.Errorf("empty lists: %v, %d", got, e)
	}
	got, e := Dot([]api.Num{one}, nil)
	expectError(t, "one list longer", got, e, api.ErrDim)
	got, e = Dot([]api.Num{one}, []api.Num{one, one})
	expectError(t, "other list longer", got, e, api.ErrDim)
	for _, a := range invalid {
		got, e = Dot([]api.Num{one, a}, []api.Num{one, one})
		expectError(t, "left invalid", got, e, api.ErrArg)
		got, e = Dot(nil, []api.Num{a})
		expectError(t, "right invalid and longer", got, e, api.ErrArg)
	}
}

// P1.7: lists of any length.
func TestDotOfLongLists(t *testing.T) {
	const n = 50000
	l, m := make([]api.Num, n), make([]api.Num, n)
	for i := range n {
		l[i], m[i] = api.Num{Top: 1, Low: i%7 + 1}, api.Num{Top: i%2*2 - 1, Low: 1}
	}
	sum := new(big.Rat)
	for i := range n {
		sum.Add(sum, new(big.Rat).Mul(toRat(l[i]), toRat(m[i])))
	}
	got, e := Dot(l, m)
	expect(t, "Dot", got, e, sum)
}

// P1.8
func TestPrint(t *testing.T) {
	for text, a := range map[string]api.Num{
		"0": {Low: 1}, "17": {Top: 17, Low: 1}, "-17": {Top: -17, Low: 1}, "-3/4": {Top: -3, Low: 4}, "1/3": {Top: 1, Low: 3},
		"1152921504606846976": {Top: api.MaxNum, Low: 1}, "-1/1152921504606846976": {Top: -1, Low: api.MaxNum},
	} {
		if got, e := Print(a); got != text || e != api.OK {
			t.Errorf("Print of %v: %q, %d", a, got, e)
		}
	}
	for _, a := range invalid {
		if got, e := Print(a); got != "" || e != api.ErrArg {
			t.Errorf("Print of %v: %q, %d", a, got, e)
		}
	}
}

// P1.8
func TestParse(t *testing.T) {
	long := strings.Repeat("9", 99)
	for text, want := range map[string]api.Num{
		"0": {Low: 1}, "-0": {Low: 1}, "-0/5": {Low: 1}, "000/007": {Low: 1}, "-06/4": {Top: -3, Low: 2}, "10/010": {Top: 1, Low: 1},
		"1152921504606846976":                      {Top: api.MaxNum, Low: 1},
		"-2305843009213693952/2305843009213693952": {Top: -1, Low: 1},
		"-" + long + "/" + long:                    {Top: -1, Low: 1},
		strings.Repeat("0", 199) + "7":             {Top: 7, Low: 1},
	} {
		if got, e := Parse(text); got != want || e != api.OK {
			t.Errorf("Parse of %q: %v, %d", text, got, e)
		}
	}
}

// P1.8
func TestParseErrors(t *testing.T) {
	for _, text := range []string{"", "-", "/", "1/", "/1", "-/1", "1/0", "1/000", "0/0", "+1", "--1", "1-", "1/-2", "1//2", "1/2/3",
		" 1", "1 ", "1 /2", "a", "1.5", "0x1", "1_0", "1e3", "\u0661", "1\x00", "\xff", "1\n", "½",
		strings.Repeat("1", 201) + "x", strings.Repeat("1", 199) + "/0", strings.Repeat("1", 300) + "/00"} {
		got, e := Parse(text)
		expectError(t, "Parse of "+text, got, e, api.ErrForm)
	}
	for _, text := range []string{"1152921504606846977", "-1152921504606846977", "1/1152921504606846977",
		strings.Repeat("1", 200), strings.Repeat("0", 201), strings.Repeat("0", 200) + "1/1", "1/" + strings.Repeat("1", 100000)} {
		got, e := Parse(text)
		expectError(t, "Parse of "+text, got, e, api.ErrFull)
	}
}

// P1.9
func TestField(t *testing.T) {
	var list []api.Num
	for _, a := range samples() {
		if a.Low <= 100 && max(a.Top, -a.Top) <= 100 {
			list = append(list, a)
		}
	}
	sure := func(a api.Num, e api.Errno) api.Num {
		if e != api.OK {
			t.Fatalf("error %d", e)
		}
		return a
	}
	for i, a := range list {
		for j, b := range list {
			c := list[(i*5+j*3)%len(list)]
			sum, product := sure(Add(a, b)), sure(Mul(a, b))
			if sum != sure(Add(b, a)) || product != sure(Mul(b, a)) {
				t.Errorf("not commutative: %v, %v", a, b)
			}
			if sure(Add(sum, c)) != sure(Add(a, sure(Add(b, c)))) || sure(Mul(product, c)) != sure(Mul(a, sure(Mul(b, c)))) {
				t.Errorf("not associative: %v, %v, %v", a, b, c)
			}
			if sure(Mul(sum, c)) != sure(Add(sure(Mul(a, c)), sure(Mul(b, c)))) {
				t.Errorf("not distributive: %v, %v, %v", a, b, c)
			}
			if sure(Sub(sum, b)) != a || b.Top != 0 && sure(Div(product, b)) != a {
				t.Errorf("not inverse: %v, %v", a, b)
			}
		}
	}
}

// P1.11
func TestRoundTrip(t *testing.T) {
	for _, a := range samples() {
		text, e := Print(a)
		if got, f := Parse(text); got != a || e != api.OK || f != api.OK {
			t.Errorf("%v: %q, %v", a, text, got)
		}
	}
}

// P1, P2: every pair of ints, and equal results for equal arguments.
func TestAllArguments(t *testing.T) {
	ints := []int{0, 1, -1, 2, 3, api.MaxNum, -api.MaxNum, api.MaxNum + 1, math.MaxInt, math.MinInt}
	var list []api.Num
	for _, top := range ints {
		for _, low := range ints {
			list = append(list, api.Num{Top: top, Low: low})
			a, e := Make(top, low)
			if b, f := Make(top, low); a != b || e != f {
				t.Errorf("Make(%d, %d) varies", top, low)
			}
		}
	}
	for _, a := range list {
		for _, b := range list {
			for _, operation := range []func(a, b api.Num) (api.Num, api.Errno){Add, Sub, Mul, Div, Between} {
				x, e := operation(a, b)
				if y, f := operation(a, b); x != y || e != f {
					t.Errorf("an operation on %v and %v varies", a, b)
				}
				if (e == api.OK) != Valid(x) {
					t.Errorf("an operation on %v and %v: %v, %d", a, b, x, e)
				}
			}
		}
	}
}
