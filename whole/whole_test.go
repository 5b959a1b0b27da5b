package whole

import (
	"math"
	"math/big"
	"math/rand"
	"testing"
)

// samples returns integers of many lengths, with the digits at which carries
// and the estimates of a division go wrong first, and all their opposites.
func samples() []Int {
	random := rand.New(rand.NewSource(1))
	edges := []uint32{0, 1, 2, math.MaxInt32, 1 << 31, math.MaxUint32 - 1, math.MaxUint32}
	out := []Int{Of(0), Of(1), Of(2), Of(10), Of(limit - 1), Of(limit), Of(math.MaxInt), Of(math.MinInt)}
	for length := range 12 {
		for range 14 {
			d := make(digits, length)
			for i := range d {
				d[i] = random.Uint32()
				if random.Intn(3) > 0 {
					d[i] = edges[random.Intn(len(edges))]
				}
			}
			out = append(out, signed(false, d.trim()))
		}
	}
	for _, a := range out {
		out = append(out, a.Neg())
	}
	return out
}

func toBig(a Int) *big.Int {
	out := new(big.Int)
	for i := len(a.large) - 1; i >= 0; i-- {
		out.Lsh(out, 32).Or(out, big.NewInt(int64(a.large[i])))
	}
	if len(a.large) == 0 {
		return out.SetInt64(int64(a.small))
	}
	return out.Mul(out, big.NewInt(int64(a.small)))
}

func fromBig(a *big.Int) Int {
	var d digits
	for rest := new(big.Int).Abs(a); rest.Sign() > 0; rest.Rsh(rest, 32) {
		d = append(d, uint32(new(big.Int).And(rest, big.NewInt(math.MaxUint32)).Int64()))
	}
	return signed(a.Sign() < 0, d)
}

func check(t *testing.T, name string, a, b, got Int, want *big.Int) {
	t.Helper()
	if toBig(got).Cmp(want) != 0 {
		t.Fatalf("%s of %v and %v: %v, not %v", name, toBig(a), toBig(b), toBig(got), want)
	}
	if !got.Equal(fromBig(want)) {
		t.Fatalf("%s of %v and %v: not the unique representation: %v", name, toBig(a), toBig(b), got)
	}
}

func TestOperations(t *testing.T) {
	list := samples()
	for _, a := range list {
		for _, b := range list {
			x, y := toBig(a), toBig(b)
			check(t, "Plus", a, b, a.Plus(b), new(big.Int).Add(x, y))
			check(t, "Minus", a, b, a.Minus(b), new(big.Int).Sub(x, y))
			check(t, "Times", a, b, a.Times(b), new(big.Int).Mul(x, y))
			check(t, "Gcd", a, b, a.Gcd(b), new(big.Int).GCD(nil, nil, new(big.Int).Abs(x), new(big.Int).Abs(y)))
			if a.Cmp(b) != x.Cmp(y) || a.Equal(b) != (x.Cmp(y) == 0) {
				t.Fatalf("Cmp or Equal of %v and %v", x, y)
			}
			if b.Sign() == 0 {
				continue
			}
			quo, rem := new(big.Int).QuoRem(x, y, new(big.Int))
			gotQuo, gotRem := a.QuoRem(b)
			check(t, "QuoRem", a, b, gotQuo, quo)
			check(t, "QuoRem", a, b, gotRem, rem)
			check(t, "Quo", a, b, a.Quo(b), quo)
		}
	}
}

func TestCommonDivisors(t *testing.T) {
	list := samples()
	for i, a := range list {
		b, c := list[(i*7+3)%len(list)], list[(i*31+11)%len(list)]
		x, y := a.Times(c), b.Times(c)
		want := new(big.Int).GCD(nil, nil, new(big.Int).Abs(toBig(x)), new(big.Int).Abs(toBig(y)))
		check(t, "Gcd", x, y, x.Gcd(y), want)
	}
}

func TestSigns(t *testing.T) {
	for _, a := range samples() {
		x := toBig(a)
		check(t, "Neg", a, a, a.Neg(), new(big.Int).Neg(x))
		check(t, "Abs", a, a, a.Abs(), new(big.Int).Abs(x))
		if a.Sign() != x.Sign() {
			t.Errorf("Sign of %v", x)
		}
	}
}

func TestArgumentsStay(t *testing.T) {
	list := samples()
	var before []*big.Int
	for _, a := range list {
		before = append(before, toBig(a))
	}
	for i, a := range list {
		b := list[(i*13+5)%len(list)]
		a.Plus(b)
		a.Minus(b)
		a.Times(b)
		a.Gcd(b)
		if b.Sign() != 0 {
			a.QuoRem(b)
		}
	}
	for i, a := range list {
		if toBig(a).Cmp(before[i]) != 0 {
			t.Fatalf("%v has become %v", before[i], toBig(a))
		}
	}
}

func TestWithin(t *testing.T) {
	const bound = 1 << 60
	for _, n := range []int{0, 1, -1, bound, -bound} {
		if got, fits := Of(n).Within(bound); got != n || !fits {
			t.Errorf("Within of %d: %d, %t", n, got, fits)
		}
	}
	for _, n := range []int{bound + 1, -bound - 1, limit, -limit, math.MaxInt, math.MinInt} {
		if got, fits := Of(n).Within(bound); got != 0 || fits {
			t.Errorf("Within of %d: %d, %t", n, got, fits)
		}
	}
	if _, fits := Of(math.MaxInt).Times(Of(math.MaxInt)).Within(bound); fits {
		t.Error("Within of a large integer")
	}
}

func TestOf(t *testing.T) {
	for _, n := range []int{0, 5, -5, limit - 1, 1 - limit, limit, -limit, math.MaxInt, math.MinInt} {
		if toBig(Of(n)).Cmp(big.NewInt(int64(n))) != 0 {
			t.Errorf("Of %d: %v", n, toBig(Of(n)))
		}
	}
}

func TestDecimal(t *testing.T) {
	for _, text := range []string{"0", "7", "000", "00012", "999999999999999999", "1000000000000000000", "123456789012345678901234567890123456789012345678901234567890",
		"100000000000000000000000000000000000000000000000000001", "4611686018427387904"} {
		want, _ := new(big.Int).SetString(text, 10)
		if toBig(Decimal(text)).Cmp(want) != 0 {
			t.Errorf("Decimal of %s: %v", text, toBig(Decimal(text)))
		}
	}
}
