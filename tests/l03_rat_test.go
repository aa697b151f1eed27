package tests

import (
	"fmt"
	"math"
	"math/big"
	"strings"
	"testing"

	"loop.example/g00520/impl"
)

const (
	greatestPart = 1000000000
	greatestRaw  = 1000000000000000000
)

type ratOperation func(impl.Rat, impl.Rat) (impl.Rat, bool)

func pair(n, d int) impl.Rat { return impl.Rat{Num: n, Den: d} }

// wantRat checks the complete result of a function that returns a fraction.
func wantRat(t *testing.T, call string, got impl.Rat, ok bool, want impl.Rat, wantOk bool) {
	t.Helper()
	if got != want || ok != wantOk {
		t.Errorf("%s = %v, %t; want %v, %t", call, got, ok, want, wantOk)
	}
}

// reducedRat computes RatOf in integers of any size.
func reducedRat(n, d *big.Int) (impl.Rat, bool) {
	limit := big.NewInt(greatestRaw)
	if d.Sign() == 0 || n.CmpAbs(limit) > 0 || d.CmpAbs(limit) > 0 {
		return impl.Rat{}, false
	}
	r := new(big.Rat).SetFrac(n, d)
	part := big.NewInt(greatestPart)
	if r.Num().CmpAbs(part) > 0 || r.Denom().Cmp(part) > 0 {
		return impl.Rat{}, false
	}
	return pair(int(r.Num().Int64()), int(r.Denom().Int64())), true
}

// isPlainlyValid is the definition of a valid fraction.
func isPlainlyValid(r impl.Rat) bool {
	if r.Den < 1 || r.Den > greatestPart || r.Num < -greatestPart || r.Num > greatestPart {
		return false
	}
	n := new(big.Int).Abs(big.NewInt(int64(r.Num)))
	return new(big.Int).GCD(nil, nil, n, big.NewInt(int64(r.Den))).Int64() == 1
}

func product(a, b int) *big.Int {
	return new(big.Int).Mul(big.NewInt(int64(a)), big.NewInt(int64(b)))
}

// wantedOperation computes an operation from its definition.
func wantedOperation(sign string, a, b impl.Rat) (impl.Rat, bool) {
	if !isPlainlyValid(a) || !isPlainlyValid(b) {
		return impl.Rat{}, false
	}
	left, right := product(a.Num, b.Den), product(b.Num, a.Den)
	switch sign {
	case "+":
		return reducedRat(left.Add(left, right), product(a.Den, b.Den))
	case "-":
		return reducedRat(left.Sub(left, right), product(a.Den, b.Den))
	case "*":
		return reducedRat(product(a.Num, b.Num), product(a.Den, b.Den))
	}
	return reducedRat(left, right)
}

func ratOperations() map[string]ratOperation {
	return map[string]ratOperation{"+": impl.AddRat, "-": impl.SubRat, "*": impl.MulRat, "/": impl.DivRat}
}

// smallRats are fractions whose sums, products and quotients all fit.
func smallRats() []impl.Rat {
	var list []impl.Rat
	for d := 1; d <= 9; d++ {
		for n := -10; n <= 10; n++ {
			if r := pair(n, d); isPlainlyValid(r) {
				list = append(list, r)
			}
		}
	}
	return list
}

// greatRats are valid fractions at the limits and close to them.
func greatRats() []impl.Rat {
	var list []impl.Rat
	parts := []int{1, 2, 3, 31622, 31623, 65536, 499999999, 500000000, 500000001,
		999999990, 999999996, 999999997, 999999998, 999999999, greatestPart}
	for _, d := range parts {
		for _, n := range parts {
			if isPlainlyValid(pair(n, d)) {
				list = append(list, pair(n, d), pair(-n, d))
			}
		}
	}
	return append(list, pair(0, 1))
}

func badRats() []impl.Rat {
	list := []impl.Rat{
		{}, pair(1, 0), pair(-1, 0), pair(greatestPart, 0),
		pair(0, 2), pair(0, -1), pair(0, greatestPart), pair(0, math.MaxInt), pair(0, math.MinInt),
		pair(2, 2), pair(2, 4), pair(-2, 4), pair(6, 3), pair(greatestPart, greatestPart), pair(greatestPart, 2),
		pair(1, -1), pair(1, -2), pair(-1, -2), pair(-1, -greatestPart), pair(2, -4),
		pair(greatestPart+1, 1), pair(-greatestPart-1, 1), pair(1, greatestPart+1), pair(-1, greatestPart+1),
		pair(greatestRaw, 1), pair(1, greatestRaw), pair(greatestRaw, greatestRaw), pair(-greatestRaw, 1),
		pair(greatestRaw+1, 1), pair(1, greatestRaw+1), pair(1<<32, 1), pair(1, 1<<32+1), pair(1<<32+1, 2),
	}
	for _, n := range []int{math.MinInt, math.MinInt + 1, math.MaxInt - 1, math.MaxInt} {
		list = append(list, pair(n, 1), pair(1, n), pair(n, n), pair(n, 0), pair(0, n), pair(n, 3), pair(-1, n))
	}
	return append(list, pair(math.MinInt, -1), pair(math.MinInt, math.MaxInt), pair(math.MaxInt, math.MinInt))
}

func TestMaxRat(t *testing.T) {
	if impl.MaxRat != greatestPart || greatestRaw != greatestPart*greatestPart {
		t.Errorf("MaxRat = %d", impl.MaxRat)
	}
}

func TestIsValidRat(t *testing.T) {
	for _, r := range []impl.Rat{
		pair(0, 1), pair(1, 1), pair(-1, 1), pair(1, 2), pair(-7, 3), pair(3, 2),
		pair(greatestPart, 1), pair(-greatestPart, 1), pair(1, greatestPart), pair(-1, greatestPart),
		pair(greatestPart, greatestPart-1), pair(greatestPart-1, greatestPart), pair(-greatestPart+1, greatestPart),
	} {
		if !impl.IsValidRat(r) {
			t.Errorf("IsValidRat(%v) = false", r)
		}
	}
	for _, r := range badRats() {
		if impl.IsValidRat(r) {
			t.Errorf("IsValidRat(%v) = true", r)
		}
	}
	for n := -60; n <= 60; n++ {
		for d := -60; d <= 60; d++ {
			if got, want := impl.IsValidRat(pair(n, d)), isPlainlyValid(pair(n, d)); got != want {
				t.Errorf("IsValidRat(%d, %d) = %t", n, d, got)
			}
		}
	}
}

func TestRatOfKnownFractions(t *testing.T) {
	for _, c := range []struct{ n, d, num, den int }{
		{0, 1, 0, 1}, {0, -1, 0, 1}, {0, 7, 0, 1}, {0, greatestRaw, 0, 1}, {0, -greatestRaw, 0, 1},
		{1, 2, 1, 2}, {2, 4, 1, 2}, {-2, 6, -1, 3}, {2, -6, -1, 3}, {-2, -6, 1, 3}, {6, 3, 2, 1}, {6, -3, -2, 1},
		{5, 5, 1, 1}, {-5, -5, 1, 1}, {5, -5, -1, 1}, {1, -1, -1, 1}, {-1, 1, -1, 1},
		{greatestPart, 1, greatestPart, 1}, {-greatestPart, 1, -greatestPart, 1},
		{greatestPart, -1, -greatestPart, 1}, {1, greatestPart, 1, greatestPart}, {1, -greatestPart, -1, greatestPart},
		{greatestRaw, greatestRaw, 1, 1}, {greatestRaw, -greatestRaw, -1, 1}, {-greatestRaw, -greatestRaw, 1, 1},
		{greatestRaw, greatestPart, greatestPart, 1}, {-greatestRaw, greatestPart, -greatestPart, 1},
		{greatestPart, greatestRaw, 1, greatestPart}, {greatestPart, -greatestRaw, -1, greatestPart},
		{greatestRaw, greatestRaw / 2, 2, 1}, {greatestRaw / 2, -greatestRaw, -1, 2},
		{2*greatestPart + 2, 2*greatestPart - 2, 0, 0},
		{2 * greatestPart, 2*greatestPart - 2, greatestPart, greatestPart - 1},
		// Each of these is reduced to a fraction that is not valid.
		{greatestPart + 1, 1, 0, 0}, {-greatestPart - 1, 1, 0, 0}, {1, greatestPart + 1, 0, 0}, {1, -greatestPart - 1, 0, 0},
		{2*greatestPart + 2, 2, 0, 0}, {3, 3*greatestPart + 3, 0, 0},
		{greatestRaw, 1, 0, 0}, {-greatestRaw, 1, 0, 0}, {1, greatestRaw, 0, 0}, {-1, greatestRaw, 0, 0}, {1, -greatestRaw, 0, 0},
		{greatestRaw, 3, 0, 0}, {greatestRaw - 1, greatestRaw, 0, 0}, {greatestRaw, greatestRaw - 1, 0, 0},
		// These are beyond the limits, also where the reduced fraction is valid.
		{greatestRaw + 1, greatestRaw + 1, 0, 0}, {-greatestRaw - 1, greatestRaw + 1, 0, 0},
		{greatestRaw + 1, 1, 0, 0}, {1, greatestRaw + 1, 0, 0}, {0, greatestRaw + 1, 0, 0}, {0, -greatestRaw - 1, 0, 0},
		{greatestRaw + greatestPart, greatestPart + 1, 0, 0}, {greatestPart + 1, -greatestRaw - greatestPart, 0, 0},
		{greatestRaw + 2, greatestRaw/2 + 1, 0, 0}, {-greatestRaw - 2, greatestRaw/2 + 1, 0, 0},
		{greatestRaw/2 + 1, greatestRaw + 2, 0, 0}, {greatestRaw/2 + 1, -greatestRaw - 2, 0, 0},
		{0, 0, 0, 0}, {1, 0, 0, 0}, {-1, 0, 0, 0}, {greatestRaw, 0, 0, 0}, {math.MinInt, 0, 0, 0},
		{math.MinInt, math.MinInt, 0, 0}, {math.MaxInt, math.MaxInt, 0, 0}, {math.MinInt, -1, 0, 0},
		{0, math.MinInt, 0, 0}, {0, math.MaxInt, 0, 0}, {math.MinInt, 1 << 62, 0, 0}, {1 << 62, math.MinInt, 0, 0},
	} {
		got, ok := impl.RatOf(c.n, c.d)
		wantRat(t, fmt.Sprintf("RatOf(%d, %d)", c.n, c.d), got, ok, pair(c.num, c.den), c.den != 0)
	}
}

func TestRatOfAgainstItsDefinition(t *testing.T) {
	numbers := []int{math.MinInt, math.MinInt + 1, math.MaxInt - 1, math.MaxInt}
	for _, n := range []int{
		0, 1, 2, 3, 4, 6, 12, 35, 97, 1 << 20, 1 << 31, 1 << 32, 1 << 40, 1<<59 + 1, 1 << 59,
		greatestPart - 1, greatestPart, greatestPart + 1, 2 * greatestPart, 2*greatestPart - 2, 3*greatestPart + 3,
		greatestRaw / 2, greatestRaw - greatestPart, greatestRaw - 2, greatestRaw - 1, greatestRaw,
		greatestRaw + 1, greatestRaw + 2, greatestRaw + greatestPart, 2 * greatestRaw, 4 * greatestRaw,
	} {
		numbers = append(numbers, n, -n)
	}
	for _, n := range numbers {
		for _, d := range numbers {
			got, ok := impl.RatOf(n, d)
			want, wantOk := reducedRat(big.NewInt(int64(n)), big.NewInt(int64(d)))
			wantRat(t, fmt.Sprintf("RatOf(%d, %d)", n, d), got, ok, want, wantOk)
			if ok && !impl.IsValidRat(got) {
				t.Errorf("RatOf(%d, %d) = %v is not valid", n, d, got)
			}
		}
	}
}

func TestRatOfReturnsValidFractionsUnchanged(t *testing.T) {
	for _, r := range append(smallRats(), greatRats()...) {
		for _, k := range []int{1, -1, 2, -3, 1000, greatestPart, -greatestPart} {
			got, ok := impl.RatOf(r.Num*k, r.Den*k)
			wantRat(t, fmt.Sprintf("RatOf of %d * %v", k, r), got, ok, r, true)
		}
	}
}

func TestOperationsKnownResults(t *testing.T) {
	half, third := pair(1, 2), pair(-1, 3)
	for _, c := range []struct {
		a    impl.Rat
		sign string
		b    impl.Rat
		want impl.Rat
	}{
		{half, "+", third, pair(1, 6)}, {half, "-", third, pair(5, 6)},
		{half, "*", third, pair(-1, 6)}, {half, "/", third, pair(-3, 2)},
		{third, "+", half, pair(1, 6)}, {third, "-", half, pair(-5, 6)}, {third, "/", half, pair(-2, 3)},
		{half, "+", half, pair(1, 1)}, {half, "-", half, pair(0, 1)}, {half, "/", half, pair(1, 1)},
		{third, "*", third, pair(1, 9)}, {third, "/", third, pair(1, 1)},
		{pair(1, 6), "+", pair(1, 10), pair(4, 15)}, {pair(4, 9), "*", pair(3, 8), pair(1, 6)},
		{pair(0, 1), "+", third, third}, {pair(0, 1), "-", third, pair(1, 3)},
		{pair(0, 1), "*", third, pair(0, 1)}, {pair(0, 1), "/", third, pair(0, 1)},
		{pair(2, 1), "/", pair(-4, 1), pair(-1, 2)}, {pair(1, 1), "/", pair(1, greatestPart), pair(greatestPart, 1)},
		{pair(greatestPart, 1), "*", pair(1, greatestPart), pair(1, 1)},
		{pair(greatestPart, 1), "/", pair(-greatestPart, 1), pair(-1, 1)},
		{pair(1, greatestPart), "/", pair(1, greatestPart), pair(1, 1)},
		{pair(greatestPart-1, 1), "+", pair(1, 1), pair(greatestPart, 1)},
		{pair(-greatestPart+1, 1), "-", pair(1, 1), pair(-greatestPart, 1)},
		{pair(greatestPart/2, 1), "*", pair(-2, 1), pair(-greatestPart, 1)},
		{pair(1, greatestPart/2), "*", pair(1, 2), pair(1, greatestPart)},
		{pair(1, greatestPart/2), "/", pair(-2, 1), pair(-1, greatestPart)},
	} {
		got, ok := ratOperations()[c.sign](c.a, c.b)
		wantRat(t, fmt.Sprint(c.a, c.sign, c.b), got, ok, c.want, true)
	}
}

func TestOperationsRejectResultsThatDoNotFit(t *testing.T) {
	most, least, tiny := pair(greatestPart, 1), pair(-greatestPart, 1), pair(1, greatestPart)
	for _, c := range []struct {
		a    impl.Rat
		sign string
		b    impl.Rat
	}{
		{most, "+", pair(1, 1)}, {least, "-", pair(1, 1)}, {most, "+", most}, {least, "+", least},
		{most, "-", least}, {least, "-", most}, {most, "-", pair(-1, 1)}, {most, "+", tiny}, {least, "-", tiny},
		{pair(1, 2), "+", pair(1, greatestPart-1)}, {pair(1, 3), "-", tiny}, {pair(1, 99999), "+", pair(1, 100003)},
		{most, "*", pair(2, 1)}, {most, "*", least}, {most, "*", pair(-3, 2)}, {tiny, "*", pair(1, 2)}, {tiny, "*", tiny},
		{tiny, "*", pair(-3, 7)}, {pair(31623, 1), "*", pair(31623, 1)}, {pair(1, 31623), "*", pair(-1, 31623)},
		{most, "/", pair(1, 2)}, {most, "/", tiny}, {least, "/", tiny}, {tiny, "/", pair(2, 1)}, {tiny, "/", most},
		{pair(1, 3), "/", pair(0, 1)}, {pair(0, 1), "/", pair(0, 1)}, {most, "/", pair(0, 1)}, {tiny, "/", pair(0, 1)},
	} {
		got, ok := ratOperations()[c.sign](c.a, c.b)
		wantRat(t, fmt.Sprint(c.a, c.sign, c.b), got, ok, impl.Rat{}, false)
	}
}

// TestNumeratorsBeforeReduction examines sums whose reduced form is valid in
// every case, so that the numerator before reduction alone decides.
func TestNumeratorsBeforeReduction(t *testing.T) {
	for _, c := range []struct {
		a, b impl.Rat
		want impl.Rat
		ok   bool
	}{
		// The numerator is MaxRat times MaxRat, MaxRat + 2, or 2 * MaxRat - 2.
		{pair(greatestPart-1, greatestPart), pair(1, greatestPart), pair(1, 1), true},
		{pair(greatestPart-1, greatestPart), pair(3, greatestPart), pair(500000001, 500000000), false},
		{pair(greatestPart-1, greatestPart), pair(greatestPart-1, greatestPart), pair(greatestPart-1, 500000000), false},
		// It is MaxRat * MaxRat minus 4, plus 999999998, and exactly that.
		{pair(999999999, 999999998), pair(3, 999999998), pair(500000001, 499999999), true},
		{pair(greatestPart, 999999999), pair(2, 999999999), pair(333333334, 333333333), false},
		{pair(999999999, 800000000), pair(250000001, 800000000), pair(25, 16), true},
	} {
		want := c.want
		if !c.ok {
			want = impl.Rat{}
		}
		opposite := want
		opposite.Num = -want.Num
		minusA, minusB := pair(-c.a.Num, c.a.Den), pair(-c.b.Num, c.b.Den)
		got, ok := impl.AddRat(c.a, c.b)
		wantRat(t, fmt.Sprint("AddRat", c.a, c.b), got, ok, want, c.ok)
		got, ok = impl.AddRat(c.b, c.a)
		wantRat(t, fmt.Sprint("AddRat", c.b, c.a), got, ok, want, c.ok)
		got, ok = impl.AddRat(minusA, minusB)
		wantRat(t, fmt.Sprint("AddRat", minusA, minusB), got, ok, opposite, c.ok)
		got, ok = impl.SubRat(c.a, minusB)
		wantRat(t, fmt.Sprint("SubRat", c.a, minusB), got, ok, want, c.ok)
		got, ok = impl.SubRat(minusA, c.b)
		wantRat(t, fmt.Sprint("SubRat", minusA, c.b), got, ok, opposite, c.ok)
	}
}

// TestSumsNearTheLimitOfTheNumerator crosses the limit with fractions of equal
// great denominators, whose sums are often valid on both sides of it.
func TestSumsNearTheLimitOfTheNumerator(t *testing.T) {
	accepted, tooGreat := 0, 0
	for d := greatestPart - 30; d <= greatestPart; d++ {
		for n := greatestPart - 30; n <= greatestPart; n++ {
			for m := 1; m <= 40; m++ {
				a, b := pair(n, d), pair(m, d)
				if !isPlainlyValid(a) || !isPlainlyValid(b) {
					continue
				}
				want, wantOk := wantedOperation("+", a, b)
				got, ok := impl.AddRat(a, b)
				wantRat(t, fmt.Sprint("AddRat", a, b), got, ok, want, wantOk)
				got, ok = impl.SubRat(a, pair(-m, d))
				wantRat(t, fmt.Sprint("SubRat", a, pair(-m, d)), got, ok, want, wantOk)
				if wantOk {
					accepted++
				} else if _, fits := impl.RatOf(n+m, d); fits {
					tooGreat++
				}
			}
		}
	}
	if accepted == 0 || tooGreat == 0 {
		t.Errorf("%d sums were accepted, %d rejected for the numerator alone", accepted, tooGreat)
	}
}

func TestOperationsAgainstTheirDefinitions(t *testing.T) {
	list := append(smallRats()[:40], greatRats()...)
	list = append(list, badRats()...)
	for sign, operation := range ratOperations() {
		for _, a := range list {
			for _, b := range list {
				got, ok := operation(a, b)
				want, wantOk := wantedOperation(sign, a, b)
				wantRat(t, fmt.Sprint(a, sign, b), got, ok, want, wantOk)
			}
		}
	}
}

func TestOperationsRejectBadFractions(t *testing.T) {
	for _, bad := range badRats() {
		for sign, operation := range ratOperations() {
			for _, r := range []impl.Rat{pair(0, 1), pair(1, 1), pair(-2, 3), pair(greatestPart, 1), bad} {
				got, ok := operation(bad, r)
				wantRat(t, fmt.Sprint(bad, sign, r), got, ok, impl.Rat{}, false)
				got, ok = operation(r, bad)
				wantRat(t, fmt.Sprint(r, sign, bad), got, ok, impl.Rat{}, false)
			}
		}
	}
}

func TestSumsAndProductsOfSmallFractionsCanBeUndone(t *testing.T) {
	for _, a := range smallRats() {
		for _, b := range smallRats() {
			wantUndone(t, "+", a, b, impl.AddRat, impl.SubRat, true)
			wantUndone(t, "-", a, b, impl.SubRat, impl.AddRat, true)
			if b.Num != 0 {
				wantUndone(t, "*", a, b, impl.MulRat, impl.DivRat, true)
				wantUndone(t, "/", a, b, impl.DivRat, impl.MulRat, true)
			}
		}
	}
}

// TestSumsAndProductsOfGreatFractionsCanBeUndone leaves out what does not fit.
func TestSumsAndProductsOfGreatFractionsCanBeUndone(t *testing.T) {
	for _, a := range greatRats() {
		for _, b := range greatRats() {
			wantUndone(t, "+", a, b, impl.AddRat, impl.SubRat, false)
			wantUndone(t, "-", a, b, impl.SubRat, impl.AddRat, false)
			if b.Num != 0 {
				wantUndone(t, "*", a, b, impl.MulRat, impl.DivRat, false)
				wantUndone(t, "/", a, b, impl.DivRat, impl.MulRat, false)
			}
		}
	}
}

func wantUndone(t *testing.T, sign string, a, b impl.Rat, do, undo ratOperation, fits bool) {
	t.Helper()
	done, ok := do(a, b)
	if ok && !impl.IsValidRat(done) || fits && !ok {
		t.Errorf("%v %s %v = %v, %t", a, sign, b, done, ok)
	}
	if !ok {
		return
	}
	back, ok := undo(done, b)
	if fits && !ok || ok && back != a {
		t.Errorf("%v %s %v, undone, is %v, %t", a, sign, b, back, ok)
	}
}

func TestCompareRatKnownOrder(t *testing.T) {
	ascending := []impl.Rat{
		pair(-greatestPart, 1), pair(-greatestPart+1, 1), pair(-2, 1), pair(-3, 2), pair(-greatestPart, greatestPart-1),
		pair(-1, 1), pair(-greatestPart+1, greatestPart), pair(-1, 2), pair(-1, 3), pair(-1, greatestPart-1),
		pair(-1, greatestPart), pair(0, 1), pair(1, greatestPart), pair(1, greatestPart-1), pair(1, 3),
		pair(499999999, 999999999), pair(1, 2), pair(500000000, 999999999), pair(2, 3),
		pair(greatestPart-2, greatestPart-1), pair(greatestPart-1, greatestPart), pair(1, 1),
		pair(greatestPart, greatestPart-1), pair(greatestPart-1, greatestPart-2), pair(3, 2), pair(2, 1),
		pair(greatestPart-1, 2), pair(greatestPart-1, 1), pair(greatestPart, 1),
	}
	for i, a := range ascending {
		for j, b := range ascending {
			want := min(1, max(-1, i-j))
			if got := impl.CompareRat(a, b); got != want {
				t.Errorf("CompareRat(%v, %v) = %d; want %d", a, b, got, want)
			}
		}
	}
}

func TestCompareRatAgainstItsDefinition(t *testing.T) {
	list := append(smallRats(), greatRats()...)
	for _, a := range list {
		for _, b := range list {
			want := product(a.Num, b.Den).Cmp(product(b.Num, a.Den))
			if got := impl.CompareRat(a, b); got != want {
				t.Errorf("CompareRat(%v, %v) = %d; want %d", a, b, got, want)
			}
		}
	}
}

func TestCompareRatOfBadFractions(t *testing.T) {
	for _, bad := range badRats() {
		others := append(smallRats(), greatRats()...)
		for _, r := range append(others, badRats()...) {
			if got := impl.CompareRat(bad, r); got != 0 {
				t.Errorf("CompareRat(%v, %v) = %d; want 0", bad, r, got)
			}
			if got := impl.CompareRat(r, bad); got != 0 {
				t.Errorf("CompareRat(%v, %v) = %d; want 0", r, bad, got)
			}
		}
	}
}

func TestFloorRatKnownResults(t *testing.T) {
	for r, want := range map[impl.Rat]int{
		pair(0, 1): 0, pair(5, 1): 5, pair(-5, 1): -5, pair(1, 2): 0, pair(-1, 2): -1, pair(3, 2): 1, pair(-3, 2): -2,
		pair(7, 3): 2, pair(-7, 3): -3, pair(8, 3): 2, pair(-8, 3): -3, pair(-1, 3): -1, pair(-2, 3): -1,
		pair(1, greatestPart): 0, pair(-1, greatestPart): -1,
		pair(greatestPart-1, greatestPart): 0, pair(-greatestPart+1, greatestPart): -1,
		pair(greatestPart, greatestPart-1): 1, pair(-greatestPart, greatestPart-1): -2,
		pair(greatestPart, 1): greatestPart, pair(-greatestPart, 1): -greatestPart,
		pair(greatestPart-1, 2): 499999999, pair(-greatestPart+1, 2): -500000000,
	} {
		if got := impl.FloorRat(r); got != want {
			t.Errorf("FloorRat(%v) = %d; want %d", r, got, want)
		}
	}
}

// TestFloorRatAgainstItsDefinition checks floor <= r < floor + 1.
func TestFloorRatAgainstItsDefinition(t *testing.T) {
	for _, r := range append(smallRats(), greatRats()...) {
		floor := impl.FloorRat(r)
		if floor*r.Den > r.Num || (floor+1)*r.Den <= r.Num {
			t.Errorf("FloorRat(%v) = %d", r, floor)
		}
		if got, want := impl.IsInteger(r), floor*r.Den == r.Num; got != want {
			t.Errorf("IsInteger(%v) = %t; want %t", r, got, want)
		}
	}
}

func TestBadFractionsHaveNoFloorAndNoText(t *testing.T) {
	for _, r := range badRats() {
		if got := impl.FloorRat(r); got != 0 {
			t.Errorf("FloorRat(%v) = %d; want 0", r, got)
		}
		if impl.IsInteger(r) {
			t.Errorf("IsInteger(%v) = true", r)
		}
		if got := impl.FormatRat(r); got != "" {
			t.Errorf("FormatRat(%v) = %q; want \"\"", r, got)
		}
	}
}

func TestIsIntegerKnownResults(t *testing.T) {
	for r, want := range map[impl.Rat]bool{
		pair(0, 1): true, pair(1, 1): true, pair(-3, 1): true, pair(greatestPart, 1): true, pair(-greatestPart, 1): true,
		pair(1, 2): false, pair(-3, 2): false, pair(1, greatestPart): false, pair(greatestPart, 3): false,
	} {
		if got := impl.IsInteger(r); got != want {
			t.Errorf("IsInteger(%v) = %t; want %t", r, got, want)
		}
	}
}

func wantParsedRat(t *testing.T, text string, want impl.Rat) {
	t.Helper()
	got, ok := impl.ParseRat(text)
	wantRat(t, fmt.Sprintf("ParseRat(%q)", text), got, ok, want, true)
}

func wantNoRat(t *testing.T, text string) {
	t.Helper()
	got, ok := impl.ParseRat(text)
	wantRat(t, fmt.Sprintf("ParseRat(%.60q)", text), got, ok, impl.Rat{}, false)
}

func TestFractionsKnownTexts(t *testing.T) {
	for r, text := range map[impl.Rat]string{
		pair(0, 1): "0", pair(1, 1): "1", pair(-1, 1): "-1", pair(12, 1): "12", pair(-300, 1): "-300",
		pair(1, 2): "1/2", pair(-1, 2): "-1/2", pair(-3, 2): "-3/2", pair(7, 10): "7/10", pair(-7, 3): "-7/3",
		pair(greatestPart, 1): "1000000000", pair(-greatestPart, 1): "-1000000000",
		pair(1, greatestPart): "1/1000000000", pair(-1, greatestPart): "-1/1000000000",
		pair(greatestPart, greatestPart-1):  "1000000000/999999999",
		pair(-greatestPart+1, greatestPart): "-999999999/1000000000",
	} {
		if got := impl.FormatRat(r); got != text {
			t.Errorf("FormatRat(%v) = %q; want %q", r, got, text)
		}
		wantParsedRat(t, text, r)
	}
}

func TestFractionsAreParsedFromTheirTexts(t *testing.T) {
	for _, r := range append(smallRats(), greatRats()...) {
		text := fmt.Sprint(r.Num)
		if r.Den != 1 {
			text = fmt.Sprintf("%d/%d", r.Num, r.Den)
		}
		if got := impl.FormatRat(r); got != text {
			t.Errorf("FormatRat(%v) = %q; want %q", r, got, text)
		}
		wantParsedRat(t, impl.FormatRat(r), r)
	}
}

func TestParseRatRejectsOtherTexts(t *testing.T) {
	for _, text := range []string{
		"", "/", "//", "1/", "/1", "/2", "-/2", "1/-", "1//2", "/1/2", "1/2/", "1/2/3", "1/2/1", "1/1/1",
		"1/1", "0/1", "-1/1", "5/1", "2/2", "2/4", "-2/4", "6/3", "0/2", "0/0", "1/0", "-1/0", "0/-1",
		"1/-2", "-1/-2", "1/-1", "-0", "-0/1", "-0/2", "0/5", "00", "01", "-01", "01/2", "1/02", "1/2.0", "1.5",
		"+1", "+1/2", "1/+2", " 1", "1 ", " 1/2", "1/2 ", "1 /2", "1/ 2", "1/2\n", "1\n/2", "1/2\x00",
		"1:2", "1|2", "1\\2", "1,2", "1-2", "1/2-", "a", "a/b", "1/b", "a/2", "-", "--1", "--1/2", "0x1/2", "1e1", "1_0/3",
		"1000000001", "-1000000001", "1/1000000001", "-1/1000000001", "1000000001/2", "2000000000/2", "500000000/1000000000",
		"1000000000/1000000000", "1000000000000", "1/1000000000000", "999999999999", "-999999999999", "1/999999999999",
		"9223372036854775807", "-9223372036854775808", "1/9223372036854775807", "1/-9223372036854775808",
		"18446744073709551617", "1/18446744073709551618", "18446744073709551617/2",
		"\xff", "1/\xff", "1\xff2", "\u00bd", "1\u20442", "\uff11/2", strings.Repeat("/", 1000), strings.Repeat("1/2", 1000),
		strings.Repeat("1", 100000), "1/" + strings.Repeat("3", 100000), strings.Repeat("0", 1000) + "1/2",
	} {
		wantNoRat(t, text)
	}
}

func TestParseRatRejectsMalformedIntegers(t *testing.T) {
	for _, text := range malformedTexts() {
		if text == "1/2" {
			continue
		}
		wantNoRat(t, text)
		wantNoRat(t, text+"/7")
		wantNoRat(t, "7/"+text)
	}
}

// TestParseRatAcceptsOnlyFormattedTexts compares the parser with its
// definition for every text of up to six bytes from its signs and some digits.
func TestParseRatAcceptsOnlyFormattedTexts(t *testing.T) {
	formatted := map[string]impl.Rat{}
	for n := -99999; n <= 222222; n++ {
		formatted[fmt.Sprint(n)] = pair(n, 1)
	}
	for d := 2; d <= 2222; d++ {
		for n := -999; n <= 2222; n++ {
			text := fmt.Sprintf("%d/%d", n, d)
			if len(text) <= 6 && isPlainlyValid(pair(n, d)) {
				formatted[text] = pair(n, d)
			}
		}
	}
	for _, text := range textsOver("-/012", 6) {
		if r, ok := formatted[text]; ok {
			wantParsedRat(t, text, r)
		} else {
			wantNoRat(t, text)
		}
	}
}

func TestFractionsKeepNoState(t *testing.T) {
	for range 3 {
		wantParsedRat(t, "-7/3", pair(-7, 3))
		wantNoRat(t, "-14/6")
		got, ok := impl.DivRat(pair(1, 2), pair(0, 1))
		wantRat(t, "DivRat by 0", got, ok, impl.Rat{}, false)
		got, ok = impl.DivRat(pair(1, 2), pair(-1, 3))
		wantRat(t, "DivRat", got, ok, pair(-3, 2), true)
	}
}
