package tests

import (
	"fmt"
	"math"
	"slices"
	"strings"
	"testing"

	"loop.example/g00520/impl"
)

// guarded is a slice amid other memory, with a copy of all of it: what is
// before the slice, and its unused capacity.
type guarded[E comparable] struct {
	given, whole, before []E
}

func guard[E comparable](list []E, around E) guarded[E] {
	whole := slices.Concat([]E{around, around}, list, []E{around, around, around})
	return guarded[E]{whole[2 : 2+len(list)], whole, slices.Clone(whole)}
}

func (g guarded[E]) wantUnchanged(t *testing.T, call string) {
	t.Helper()
	if !slices.Equal(g.whole, g.before) {
		t.Errorf("%s modified %v to %v", call, g.before, g.whole)
	}
}

// guardRats surrounds v with a valid fraction, which a function that looks
// beyond the length would accept.
func guardRats(v []impl.Rat) guarded[impl.Rat] { return guard(v, pair(77, 1)) }

func scribble[E any](list []E, with E) {
	list = list[:cap(list)]
	for i := range list {
		list[i] = with
	}
}

// callDot calls DotRat with guarded arguments.
func callDot(t *testing.T, a, b []impl.Rat) (impl.Rat, bool) {
	t.Helper()
	x, y := guardRats(a), guardRats(b)
	got, ok := impl.DotRat(x.given, y.given)
	x.wantUnchanged(t, "DotRat")
	y.wantUnchanged(t, "DotRat")
	return got, ok
}

// callAddScaled calls AddScaled with guarded arguments, and checks that two
// results share no memory with them or with each other.
func callAddScaled(t *testing.T, a []impl.Rat, k impl.Rat, b []impl.Rat) ([]impl.Rat, bool) {
	t.Helper()
	x, y := guardRats(a), guardRats(b)
	got, ok := impl.AddScaled(x.given, k, y.given)
	again, okAgain := impl.AddScaled(x.given, k, y.given)
	kept := slices.Clone(got)
	scribble(got, pair(-88, 1))
	x.wantUnchanged(t, "AddScaled, or a change of its result,")
	y.wantUnchanged(t, "AddScaled, or a change of its result,")
	scribble(x.whole, pair(-99, 1))
	scribble(y.whole, pair(-99, 1))
	if ok != okAgain || !slices.Equal(again, kept) {
		t.Errorf("AddScaled(%v, %v, %v) = %v, %t, but %v, %t again", a, k, b, kept, ok, again, okAgain)
	}
	return kept, ok
}

// callIntsToRats checks the same of IntsToRats.
func callIntsToRats(t *testing.T, list []int) ([]impl.Rat, bool) {
	t.Helper()
	g := guard(list, 77)
	got, ok := impl.IntsToRats(g.given)
	again, okAgain := impl.IntsToRats(g.given)
	kept := slices.Clone(got)
	scribble(got, pair(-88, 1))
	g.wantUnchanged(t, "IntsToRats")
	scribble(g.whole, -99)
	if ok != okAgain || !slices.Equal(again, kept) {
		t.Errorf("IntsToRats(%v) = %v, %t, but %v, %t again", list, kept, ok, again, okAgain)
	}
	return kept, ok
}

// wantVector checks the complete result of a function that returns a vector.
func wantVector(t *testing.T, call string, got []impl.Rat, ok bool, want []impl.Rat, wantOk bool) {
	t.Helper()
	if !slices.Equal(got, want) || ok != wantOk {
		t.Errorf("%s = %v, %t; want %v, %t", call, got, ok, want, wantOk)
	}
}

func wantDot(t *testing.T, a, b []impl.Rat, want impl.Rat, wantOk bool) {
	t.Helper()
	got, ok := callDot(t, a, b)
	wantRat(t, fmt.Sprint("DotRat", a, b), got, ok, want, wantOk)
}

func wantScaled(t *testing.T, a []impl.Rat, k impl.Rat, b, want []impl.Rat, wantOk bool) {
	t.Helper()
	got, ok := callAddScaled(t, a, k, b)
	wantVector(t, fmt.Sprint("AddScaled", a, k, b), got, ok, want, wantOk)
}

// definedDot computes DotRat from its definition, in integers of any size.
func definedDot(a, b []impl.Rat) (impl.Rat, bool) {
	if len(a) != len(b) {
		return impl.Rat{}, false
	}
	sum := pair(0, 1)
	for i := range a {
		term, ok := wantedOperation("*", a[i], b[i])
		if !ok {
			return impl.Rat{}, false
		}
		if sum, ok = wantedOperation("+", sum, term); !ok {
			return impl.Rat{}, false
		}
	}
	return sum, true
}

// definedScaled does the same for AddScaled.
func definedScaled(a []impl.Rat, k impl.Rat, b []impl.Rat) ([]impl.Rat, bool) {
	if len(a) != len(b) {
		return nil, false
	}
	var v []impl.Rat
	for i := range a {
		term, ok := wantedOperation("*", k, b[i])
		if !ok {
			return nil, false
		}
		sum, ok := wantedOperation("+", a[i], term)
		if !ok {
			return nil, false
		}
		v = append(v, sum)
	}
	return v, true
}

func wholes(list ...int) []impl.Rat {
	var v []impl.Rat
	for _, n := range list {
		v = append(v, pair(n, 1))
	}
	return v
}

// vectorsOver lists all vectors of a length with elements of list.
func vectorsOver(list []impl.Rat, length int) [][]impl.Rat {
	vectors := [][]impl.Rat{nil}
	for range length {
		var longer [][]impl.Rat
		for _, v := range vectors {
			for _, r := range list {
				longer = append(longer, append(slices.Clone(v), r))
			}
		}
		vectors = longer
	}
	return vectors
}

// strangeRats are fractions at the limits, and some that are not valid.
func strangeRats() []impl.Rat {
	return []impl.Rat{
		pair(0, 1), pair(1, 1), pair(-1, 2), pair(2, 1), pair(greatestPart, 1), pair(-greatestPart, 1),
		pair(greatestPart-1, 1), pair(1, greatestPart), pair(greatestPart-1, greatestPart), pair(3, greatestPart),
		{}, pair(2, 4), pair(1, -1), pair(math.MinInt, 1),
	}
}

// variedVectors takes its elements from list at several distances.
func variedVectors(list []impl.Rat, length int) [][]impl.Rat {
	var vectors [][]impl.Rat
	for start := range len(list) {
		for _, step := range []int{1, 7, 31} {
			var v []impl.Rat
			for i := range length {
				v = append(v, list[(start+i*step)%len(list)])
			}
			vectors = append(vectors, v)
		}
	}
	return vectors
}

// placesOf lists the vectors of 1 to 4 elements with bad in one place.
func placesOf(bad impl.Rat) [][]impl.Rat {
	var vectors [][]impl.Rat
	for length := 1; length <= 4; length++ {
		for place := range length {
			v := wholes(1, 2, 0, -3)[:length]
			v[place] = bad
			vectors = append(vectors, v)
		}
	}
	return vectors
}

func wantAllValid(t *testing.T, v []impl.Rat, want bool) {
	t.Helper()
	g := guardRats(v)
	if got := impl.AllValid(g.given); got != want {
		t.Errorf("AllValid(%v) = %t", v, got)
	}
	g.wantUnchanged(t, "AllValid")
}

func TestAllValid(t *testing.T) {
	wantAllValid(t, nil, true)
	wantAllValid(t, []impl.Rat{}, true)
	wantAllValid(t, smallRats(), true)
	wantAllValid(t, greatRats(), true)
	for _, r := range append(smallRats(), greatRats()...) {
		wantAllValid(t, []impl.Rat{r}, true)
	}
	for _, bad := range badRats() {
		for _, v := range placesOf(bad) {
			wantAllValid(t, v, false)
		}
		wantAllValid(t, []impl.Rat{bad, bad, bad}, false)
		wantAllValid(t, append(smallRats(), bad), false)
	}
}

func TestAllValidIgnoresUnusedCapacity(t *testing.T) {
	for _, bad := range badRats() {
		v := []impl.Rat{bad, pair(1, 2), pair(3, 1), bad}
		if !impl.AllValid(v[1:3]) || !impl.AllValid(v[:0]) || impl.AllValid(v) {
			t.Errorf("AllValid of parts of %v", v)
		}
	}
}

func TestDotRatKnownProducts(t *testing.T) {
	for _, c := range []struct {
		a, b []impl.Rat
		want impl.Rat
	}{
		{nil, nil, pair(0, 1)},
		{wholes(0), wholes(0), pair(0, 1)},
		{wholes(3), wholes(-4), pair(-12, 1)},
		{wholes(1, 2, 3), wholes(4, 5, 6), pair(32, 1)},
		{wholes(1, 2, 3), wholes(0, 0, 1), pair(3, 1)},
		{wholes(1, -1), wholes(5, 5), pair(0, 1)},
		{[]impl.Rat{pair(1, 2), pair(2, 1)}, []impl.Rat{pair(4, 1), pair(1, 3)}, pair(8, 3)},
		{[]impl.Rat{pair(-1, 2), pair(2, 3)}, []impl.Rat{pair(1, 3), pair(-3, 4)}, pair(-2, 3)},
		{wholes(greatestPart), wholes(1), pair(greatestPart, 1)},
		{wholes(-greatestPart, greatestPart), wholes(1, 1), pair(0, 1)},
		{wholes(greatestPart), []impl.Rat{pair(1, greatestPart)}, pair(1, 1)},
		{[]impl.Rat{pair(greatestPart-1, greatestPart), pair(1, greatestPart)}, wholes(1, 1), pair(1, 1)},
		{wholes(greatestPart-2, 1, 1), wholes(1, 1, 1), pair(greatestPart, 1)},
		{wholes(greatestPart, 1, -1), wholes(-1, 1, 1), pair(-greatestPart, 1)},
	} {
		wantDot(t, c.a, c.b, c.want, true)
		wantDot(t, c.b, c.a, c.want, true)
	}
}

func TestDotRatRejectsProductsThatDoNotFit(t *testing.T) {
	tiny := pair(1, greatestPart)
	for _, c := range []struct{ a, b []impl.Rat }{
		{wholes(greatestPart), wholes(2)},
		{wholes(greatestPart, greatestPart), wholes(2, -2)},
		{wholes(1, greatestPart, 1), wholes(1, -2, greatestPart)},
		{wholes(-greatestPart, 0, greatestPart), wholes(1, 0, 2)},
		{[]impl.Rat{tiny, tiny}, []impl.Rat{pair(1, 2), pair(-1, 2)}},
		{[]impl.Rat{pair(1, 1), tiny}, []impl.Rat{pair(1, 1), tiny}},
		{wholes(31623), wholes(31623)},
		{wholes(-1, 31623), wholes(999999999, 31623)},
	} {
		wantDot(t, c.a, c.b, impl.Rat{}, false)
		wantDot(t, c.b, c.a, impl.Rat{}, false)
	}
}

// TestDotRatRejectsPartialSumsThatDoNotFit examines sums that fit as a whole,
// and those of which only the last one does not.
func TestDotRatRejectsPartialSumsThatDoNotFit(t *testing.T) {
	for _, v := range [][]impl.Rat{
		wholes(greatestPart, 1, -1), wholes(-greatestPart, -1, 1), wholes(1, greatestPart, -1),
		wholes(greatestPart, greatestPart, -greatestPart), wholes(0, greatestPart, 1, -1, 0),
		{pair(1, 2), pair(1, greatestPart-1), pair(-1, greatestPart-1)},
		{pair(greatestPart, 1), pair(1, 2), pair(-1, 2)},
		{pair(greatestPart-1, greatestPart), pair(3, greatestPart), pair(-3, greatestPart)},
		wholes(greatestPart, 1), wholes(greatestPart-1, 1, 1), wholes(1-greatestPart, -1, -1),
		wholes(0, 0, greatestPart, 1), {pair(1, 2), pair(1, 2), pair(1, greatestPart), pair(1, greatestPart-1)},
		// Here the fraction is valid, but its numerator before reduction is too great.
		{pair(greatestPart-1, greatestPart), pair(3, greatestPart)},
	} {
		ones := slices.Repeat(wholes(1), len(v))
		wantDot(t, v, ones, impl.Rat{}, false)
		wantDot(t, ones, v, impl.Rat{}, false)
		wantDot(t, slices.Repeat(wholes(-1), len(v)), v, impl.Rat{}, false)
	}
}

// TestDotRatAddsFromTheFirstElementOn examines sums that fit in this order, but
// not in the opposite one.
func TestDotRatAddsFromTheFirstElementOn(t *testing.T) {
	for _, c := range []struct {
		v    []impl.Rat
		want impl.Rat
	}{
		{wholes(-1, greatestPart, 1), pair(greatestPart, 1)},
		{wholes(1, -greatestPart, -1), pair(-greatestPart, 1)},
		{wholes(-2, greatestPart, 1, 1), pair(greatestPart, 1)},
		{wholes(-greatestPart, greatestPart, greatestPart), pair(greatestPart, 1)},
	} {
		ones := slices.Repeat(wholes(1), len(c.v))
		wantDot(t, c.v, ones, c.want, true)
		wantDot(t, ones, c.v, c.want, true)
		slices.Reverse(c.v)
		wantDot(t, c.v, ones, impl.Rat{}, false)
		wantDot(t, ones, c.v, impl.Rat{}, false)
	}
}

func TestVectorsOfDifferentLengths(t *testing.T) {
	for _, n := range []int{0, 1, 2, 3, 8} {
		for _, m := range []int{0, 1, 2, 3, 8} {
			if n == m {
				continue
			}
			for _, r := range wholes(0, 1, 77) {
				a, b := slices.Repeat([]impl.Rat{r}, n), slices.Repeat([]impl.Rat{r}, m)
				wantDot(t, a, b, impl.Rat{}, false)
				wantScaled(t, a, pair(1, 2), b, nil, false)
				wantEqual(t, a, b, false)
			}
		}
	}
	wantDot(t, nil, wholes(0), impl.Rat{}, false)
	wantDot(t, wholes(0), nil, impl.Rat{}, false)
	wantScaled(t, nil, pair(0, 1), wholes(0), nil, false)
	wantScaled(t, wholes(0), pair(0, 1), nil, nil, false)
}

// TestNoElements calls the functions directly, since a guard is never nil.
func TestNoElements(t *testing.T) {
	room := wholes(5, 6, 7)
	for _, a := range [][]impl.Rat{nil, {}, room[:0], room[3:]} {
		for _, b := range [][]impl.Rat{nil, {}, room[:0], room[1:1]} {
			got, ok := impl.DotRat(a, b)
			wantRat(t, "DotRat of no elements", got, ok, pair(0, 1), true)
			sums, ok := impl.AddScaled(a, pair(-2, 3), b)
			wantVector(t, "AddScaled of no elements", sums, ok, nil, true)
			scribble(sums, pair(-88, 1))
			if !impl.EqualVector(a, b) || !impl.AllValid(a) || impl.FormatVector(a) != "" {
				t.Error("EqualVector, AllValid or FormatVector of no elements")
			}
		}
		if impl.EqualVector(a, wholes(0)) || impl.EqualVector(wholes(0), a) || impl.EqualVector([]impl.Rat{{}}, a) {
			t.Error("EqualVector of no elements and one")
		}
	}
	if !slices.Equal(room, wholes(5, 6, 7)) {
		t.Errorf("the unused capacity of a vector was modified: %v", room)
	}
	for _, list := range [][]int{nil, {}} {
		got, ok := impl.IntsToRats(list)
		wantVector(t, "IntsToRats of no elements", got, ok, nil, true)
	}
}

// TestAddScaledOfNoElementsComputesNothing holds for any k, since the fractions
// that are computed are what has to be valid.
func TestAddScaledOfNoElementsComputesNothing(t *testing.T) {
	for _, k := range append(badRats(), greatRats()...) {
		wantScaled(t, nil, k, nil, nil, true)
	}
}

func TestAddScaledKnownSums(t *testing.T) {
	tiny := pair(1, greatestPart)
	for _, c := range []struct {
		a    []impl.Rat
		k    impl.Rat
		b    []impl.Rat
		want []impl.Rat
	}{
		{wholes(1), pair(2, 1), wholes(3), wholes(7)},
		{wholes(1, 2, 3), pair(10, 1), wholes(4, 5, 6), wholes(41, 52, 63)},
		{wholes(1, 2, 3), pair(0, 1), wholes(4, 5, 6), wholes(1, 2, 3)},
		{wholes(0, 0), pair(-1, 1), wholes(4, -5), wholes(-4, 5)},
		{wholes(4, -5), pair(-1, 1), wholes(4, -5), wholes(0, 0)},
		{[]impl.Rat{pair(1, 2), pair(2, 1)}, pair(-3, 1), []impl.Rat{pair(4, 1), pair(1, 3)}, []impl.Rat{pair(-23, 2), pair(1, 1)}},
		{[]impl.Rat{pair(1, 2), pair(-1, 3)}, pair(1, 2), []impl.Rat{pair(1, 3), pair(2, 3)}, []impl.Rat{pair(2, 3), pair(0, 1)}},
		{wholes(0, -greatestPart), pair(greatestPart, 1), wholes(1, 1), wholes(greatestPart, 0)},
		{wholes(greatestPart, -greatestPart), pair(1, 1), wholes(-greatestPart, greatestPart), wholes(0, 0)},
		{wholes(1), pair(greatestPart, 1), []impl.Rat{tiny}, wholes(2)},
		{[]impl.Rat{pair(1, 1), tiny}, pair(-1, 1), []impl.Rat{tiny, pair(1, 1)}, []impl.Rat{pair(greatestPart-1, greatestPart), pair(1-greatestPart, greatestPart)}},
	} {
		wantScaled(t, c.a, c.k, c.b, c.want, true)
	}
}

// TestAddScaledRejectsProductsThatDoNotFit examines products that do not fit
// though the sum would, in each place.
func TestAddScaledRejectsProductsThatDoNotFit(t *testing.T) {
	for _, c := range []struct{ a, k, b impl.Rat }{
		// The sums are MaxRat, -MaxRat, MaxRat, and 976563 divided by MaxRat.
		{pair(-greatestPart, 1), pair(2, 1), pair(greatestPart, 1)},
		{pair(greatestPart, 1), pair(-2, 1), pair(greatestPart, 1)},
		{pair(-2, 1), pair(500000001, 1), pair(2, 1)},
		{pair(1, 1024), pair(1, 2), pair(1, greatestPart)},
	} {
		for length := 1; length <= 4; length++ {
			for place := range length {
				a, b := wholes(1, 2, 3, 4)[:length], slices.Repeat(wholes(0), length)
				wantScaled(t, a, c.k, b, a, true)
				a[place], b[place] = c.a, c.b
				wantScaled(t, a, c.k, b, nil, false)
			}
		}
	}
}

func TestAddScaledRejectsSumsThatDoNotFit(t *testing.T) {
	for _, c := range []struct{ a, k, b impl.Rat }{
		{pair(greatestPart, 1), pair(1, 1), pair(1, 1)},
		{pair(-greatestPart, 1), pair(-1, 1), pair(1, 1)},
		{pair(greatestPart, 1), pair(1, 2), pair(1, 3)},
		{pair(1, 2), pair(1, 1), pair(1, greatestPart-1)},
		{pair(greatestPart-1, greatestPart), pair(3, 1), pair(1, greatestPart)},
	} {
		for length := 1; length <= 4; length++ {
			for place := range length {
				a, b := wholes(1, 2, 3, 4)[:length], wholes(5, 6, 7, 8)[:length]
				a[place], b[place] = c.a, c.b
				wantScaled(t, a, c.k, b, nil, false)
			}
		}
	}
}

func TestVectorsRejectBadFractions(t *testing.T) {
	half := pair(1, 2)
	for _, bad := range badRats() {
		for _, v := range placesOf(bad) {
			for _, r := range []impl.Rat{pair(0, 1), pair(1, 1), half, bad} {
				other := slices.Repeat([]impl.Rat{r}, len(v))
				wantDot(t, v, other, impl.Rat{}, false)
				wantDot(t, other, v, impl.Rat{}, false)
				wantScaled(t, v, half, other, nil, false)
				wantScaled(t, other, half, v, nil, false)
				wantScaled(t, v, pair(0, 1), other, nil, false)
				wantScaled(t, other, pair(0, 1), v, nil, false)
			}
			valid := wholes(0, 1, 2, 3)[:len(v)]
			wantScaled(t, valid, bad, valid, nil, false)
			wantScaled(t, valid, bad, slices.Repeat(wholes(0), len(v)), nil, false)
			wantScaled(t, v, bad, v, nil, false)
		}
	}
}

func TestVectorsAgainstTheirDefinitions(t *testing.T) {
	var vectors [][]impl.Rat
	for length := range 3 {
		vectors = append(vectors, vectorsOver(strangeRats(), length)...)
	}
	for _, a := range vectors {
		for _, b := range vectors {
			want, wantOk := definedDot(a, b)
			wantDot(t, a, b, want, wantOk)
		}
	}
	for _, k := range strangeRats() {
		for _, a := range vectorsOver(strangeRats(), 1) {
			for _, b := range vectorsOver(strangeRats(), 1) {
				want, wantOk := definedScaled(a, k, b)
				wantScaled(t, a, k, b, want, wantOk)
			}
		}
		for _, a := range vectorsOver(strangeRats()[3:10], 2) {
			for _, b := range vectorsOver(strangeRats()[3:10], 2) {
				want, wantOk := definedScaled(a, k, b)
				wantScaled(t, a, k, b, want, wantOk)
			}
		}
	}
}

func TestLongerVectorsAgainstTheirDefinitions(t *testing.T) {
	short := wholes(0, 1, -1, greatestPart, 1-greatestPart)
	for _, a := range vectorsOver(short, 3) {
		for _, b := range vectorsOver(short, 3) {
			want, wantOk := definedDot(a, b)
			wantDot(t, a, b, want, wantOk)
		}
	}
	for _, length := range []int{4, 16} {
		vectors := variedVectors(smallRats()[:30], length)
		for _, a := range vectors {
			for _, b := range vectors {
				want, wantOk := definedDot(a, b)
				wantDot(t, a, b, want, wantOk)
			}
			wanted, wantOk := definedScaled(a, pair(-2, 3), vectors[0])
			wantScaled(t, a, pair(-2, 3), vectors[0], wanted, wantOk)
		}
	}
}

func TestVeryLongVectors(t *testing.T) {
	const length = 100000
	ones := slices.Repeat(wholes(1), length)
	wantDot(t, ones, ones, pair(length, 1), true)
	wantDot(t, ones, ones[1:], impl.Rat{}, false)
	wantScaled(t, ones, pair(-1, 2), ones, slices.Repeat([]impl.Rat{pair(1, 2)}, length), true)
	bad := append(ones[:length-1:length-1], impl.Rat{})
	wantDot(t, ones, bad, impl.Rat{}, false)
	wantScaled(t, ones, pair(1, 1), bad, nil, false)
	wantAllValid(t, ones, true)
	wantAllValid(t, bad, false)
	wantEqual(t, ones, bad, false)
}

// wantLinear checks that products with a + k * b are those with a plus k times
// those with b, unless something does not fit; it reports whether all fits.
func wantLinear(t *testing.T, a []impl.Rat, k impl.Rat, b, c []impl.Rat) bool {
	t.Helper()
	sum, sumFits := callAddScaled(t, a, k, b)
	left, leftFits := callDot(t, sum, c)
	turned, turnedFits := callDot(t, c, sum)
	first, firstFits := callDot(t, a, c)
	second, secondFits := callDot(t, b, c)
	right, rightFits := callAddScaled(t, []impl.Rat{first}, k, []impl.Rat{second})
	if !sumFits || !leftFits || !turnedFits || !firstFits || !secondFits || !rightFits {
		return false
	}
	if left != right[0] || turned != left {
		t.Errorf("(%v + %v * %v) * %v = %v and %v; want %v", a, k, b, c, left, turned, right[0])
	}
	return true
}

func TestProductsOfSmallVectorsAreLinear(t *testing.T) {
	list := append(wholes(0, 1, -2, 5), pair(1, 2), pair(-3, 4))
	for length := range 4 {
		vectors := variedVectors(list, length)
		for _, a := range vectors {
			for _, b := range vectors {
				for _, k := range list {
					if c := vectors[len(vectors)/2]; !wantLinear(t, a, k, b, c) || !wantLinear(t, c, k, a, b) {
						t.Errorf("products of %v, %v and %v with %v do not fit", a, b, c, k)
					}
				}
			}
		}
	}
}

func TestProductsOfGreatVectorsAreLinear(t *testing.T) {
	list := append(greatRats()[:100], smallRats()[:40]...)
	fitting := 0
	for _, length := range []int{1, 2, 3} {
		vectors := variedVectors(list, length)
		for i, a := range vectors {
			for j := range 30 {
				b, c := vectors[(i+13*j)%len(vectors)], vectors[(i*5+j*29+1)%len(vectors)]
				if wantLinear(t, a, list[(i+j)%len(list)], b, c) {
					fitting++
				}
			}
		}
	}
	if fitting < 1000 {
		t.Errorf("only %d products fit", fitting)
	}
}

func TestScaledVectorsCanBeUndone(t *testing.T) {
	vectors := variedVectors(smallRats()[30:70], 3)
	for i, a := range vectors {
		b := vectors[(i*7+1)%len(vectors)]
		for _, k := range []impl.Rat{pair(0, 1), pair(1, 1), pair(-1, 1), pair(2, 3), pair(-7, 2)} {
			sum, ok := callAddScaled(t, a, k, b)
			if !ok || len(sum) != len(a) || !impl.AllValid(sum) {
				t.Errorf("AddScaled(%v, %v, %v) = %v, %t", a, k, b, sum, ok)
			}
			wantScaled(t, sum, pair(-k.Num, k.Den), b, a, true)
		}
		wantScaled(t, a, pair(0, 1), b, a, true)
		wantScaled(t, wholes(0, 0, 0), pair(1, 1), a, a, true)
	}
}

// TestVectorsInTheSameMemory passes one vector, or parts of one, twice.
func TestVectorsInTheSameMemory(t *testing.T) {
	v := wholes(1, 2, 3, 4)
	got, ok := impl.DotRat(v, v)
	wantRat(t, "DotRat(v, v)", got, ok, pair(30, 1), true)
	got, ok = impl.DotRat(v[:3], v[1:])
	wantRat(t, "DotRat of parts", got, ok, pair(20, 1), true)
	sums, ok := impl.AddScaled(v, pair(1, 2), v)
	wantVector(t, "AddScaled(v, 1/2, v)", sums, ok, []impl.Rat{pair(3, 2), pair(3, 1), pair(9, 2), pair(6, 1)}, true)
	sums, ok = impl.AddScaled(v[:3], pair(-1, 1), v[1:])
	wantVector(t, "AddScaled of parts", sums, ok, wholes(-1, -1, -1), true)
	sums, ok = impl.AddScaled(v[:2], pair(0, 1), v[2:])
	wantVector(t, "AddScaled of parts", sums, ok, wholes(1, 2), true)
	scribble(sums, pair(-88, 1))
	if !slices.Equal(v, wholes(1, 2, 3, 4)) || !impl.EqualVector(v, v) || impl.EqualVector(v[1:], v[:3]) {
		t.Errorf("the vector was modified to %v", v)
	}
}

func wantInts(t *testing.T, list []int, want []impl.Rat, wantOk bool) {
	t.Helper()
	got, ok := callIntsToRats(t, list)
	wantVector(t, fmt.Sprint("IntsToRats", list), got, ok, want, wantOk)
}

func TestIntsToRatsKnownFractions(t *testing.T) {
	wantInts(t, nil, nil, true)
	for _, list := range [][]int{
		{0}, {1}, {-1}, {3, -1}, {0, 0, 0}, {5, 4, 3, 2, 1, 0, -1},
		{greatestPart}, {-greatestPart}, {greatestPart, 0, -greatestPart}, {-greatestPart, 7, greatestPart},
		{greatestPart - 1, 1 - greatestPart},
	} {
		wantInts(t, list, wholes(list...), true)
	}
	var long []int
	for n := -2000; n <= 2000; n++ {
		long = append(long, n)
	}
	wantInts(t, long, wholes(long...), true)
}

func TestIntsToRatsRejectsOtherIntegers(t *testing.T) {
	for _, n := range []int{
		greatestPart + 1, -greatestPart - 1, greatestRaw, -greatestRaw, greatestRaw + 1, -greatestRaw - 1,
		1 << 32, -1 << 32, 1<<32 + 1, math.MaxInt32 + 1, math.MinInt, math.MinInt + 1, math.MaxInt - 1, math.MaxInt,
	} {
		for length := 1; length <= 4; length++ {
			for place := range length {
				list := []int{greatestPart, -greatestPart, 0, greatestPart}[:length]
				wantInts(t, list, wholes(list...), true)
				list[place] = n
				wantInts(t, list, nil, false)
			}
		}
	}
}

func wantEqual(t *testing.T, a, b []impl.Rat, want bool) {
	t.Helper()
	for range 2 {
		x, y := guardRats(a), guardRats(b)
		if got := impl.EqualVector(x.given, y.given); got != want {
			t.Errorf("EqualVector(%v, %v) = %t", a, b, got)
		}
		x.wantUnchanged(t, "EqualVector")
		y.wantUnchanged(t, "EqualVector")
		a, b = b, a
	}
}

func TestEqualVector(t *testing.T) {
	for _, v := range [][]impl.Rat{nil, wholes(0), wholes(1, 2, 3), wholes(1, 1, 1, 1), smallRats(), greatRats(), badRats()} {
		wantEqual(t, v, slices.Clone(v), true)
		wantEqual(t, v, append(slices.Clone(v), pair(0, 1)), false)
		wantEqual(t, v, append(slices.Clone(v), impl.Rat{}), false)
		wantEqual(t, v, append(slices.Clone(v), pair(77, 1)), false)
		for place := range v {
			other := slices.Clone(v)
			other[place].Num ^= 1
			wantEqual(t, v, other, false)
			other = slices.Clone(v)
			other[place].Den ^= 1
			wantEqual(t, v, other, false)
		}
	}
	wantEqual(t, wholes(1, 2), wholes(2, 1), false)
	wantEqual(t, wholes(1, 2, 3), wholes(1, 2), false)
}

// TestEqualVectorComparesFields tells apart fractions of the same amount that
// are not both valid.
func TestEqualVectorComparesFields(t *testing.T) {
	list := append(badRats(), wholes(0, 1, -1, 2)...)
	list = append(list, pair(1, 2), pair(-1, 2))
	for _, a := range list {
		for _, b := range list {
			same := a.Num == b.Num && a.Den == b.Den
			wantEqual(t, []impl.Rat{a}, []impl.Rat{b}, same)
			wantEqual(t, []impl.Rat{pair(5, 1), a}, []impl.Rat{pair(5, 1), b}, same)
			wantEqual(t, []impl.Rat{a, pair(5, 1)}, []impl.Rat{b, pair(5, 1)}, same)
		}
	}
}

func wantVectorText(t *testing.T, v []impl.Rat, want string) {
	t.Helper()
	g := guardRats(v)
	if got := impl.FormatVector(g.given); got != want {
		t.Errorf("FormatVector(%v) = %q; want %q", v, got, want)
	}
	g.wantUnchanged(t, "FormatVector")
}

func TestFormatVectorKnownTexts(t *testing.T) {
	wantVectorText(t, nil, "")
	wantVectorText(t, []impl.Rat{}, "")
	wantVectorText(t, wholes(0), "0")
	wantVectorText(t, wholes(-7), "-7")
	wantVectorText(t, []impl.Rat{pair(-7, 3)}, "-7/3")
	wantVectorText(t, wholes(1, 2), "1 2")
	wantVectorText(t, []impl.Rat{pair(1, 2), pair(2, 1)}, "1/2 2")
	wantVectorText(t, []impl.Rat{pair(0, 1), pair(-1, 3), pair(4, 1), pair(5, 7)}, "0 -1/3 4 5/7")
	wantVectorText(t, []impl.Rat{pair(greatestPart, 1), pair(-1, greatestPart)}, "1000000000 -1/1000000000")
}

func TestFormatVectorOfBadFractions(t *testing.T) {
	for _, bad := range badRats() {
		wantVectorText(t, []impl.Rat{bad}, "")
		wantVectorText(t, []impl.Rat{bad, bad}, " ")
		wantVectorText(t, []impl.Rat{bad, pair(1, 2), pair(3, 1)}, " 1/2 3")
		wantVectorText(t, []impl.Rat{pair(1, 2), bad, pair(3, 1)}, "1/2  3")
		wantVectorText(t, []impl.Rat{pair(1, 2), pair(3, 1), bad}, "1/2 3 ")
	}
}

func TestFormatVectorAgainstItsDefinition(t *testing.T) {
	for _, v := range [][]impl.Rat{smallRats(), greatRats(), badRats(), strangeRats()} {
		for length := range len(v) + 1 {
			var want strings.Builder
			for i, r := range v[:length] {
				if i > 0 {
					want.WriteByte(' ')
				}
				want.WriteString(impl.FormatRat(r))
			}
			wantVectorText(t, v[:length], want.String())
		}
	}
}

func TestVectorsKeepNoState(t *testing.T) {
	a, b := wholes(1, 2, 3), wholes(4, 5, 6)
	for range 3 {
		wantDot(t, a, b, pair(32, 1), true)
		wantDot(t, a, wholes(4, 5), impl.Rat{}, false)
		wantDot(t, nil, nil, pair(0, 1), true)
		wantScaled(t, a, pair(2, 1), b, wholes(9, 12, 15), true)
		wantScaled(t, a, impl.Rat{}, b, nil, false)
		wantInts(t, []int{1, greatestPart + 1}, nil, false)
		wantInts(t, []int{1, greatestPart}, wholes(1, greatestPart), true)
		wantVectorText(t, a, "1 2 3")
	}
}
