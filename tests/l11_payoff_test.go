package tests

import (
	"fmt"
	"math"
	"slices"
	"testing"

	"loop.example/g00520/impl"
)

// rated is the complete result of a function that returns a fraction; the zero
// value is that of a call without one.
type rated struct {
	r  impl.Rat
	ok bool
}

func ratedBy(r impl.Rat, ok bool) rated { return rated{r, ok} }

func ratedAt(n, d int) rated { return rated{pair(n, d), true} }

// worst is the complete result of WorstExcess; the zero value is that of a call
// without a worst excess.
type worst struct {
	excess     impl.Rat
	coalitions []int
	ok         bool
}

func worstBy(excess impl.Rat, coalitions []int, ok bool) worst { return worst{excess, coalitions, ok} }

func worstAt(excess impl.Rat, coalitions ...int) worst { return worst{excess, coalitions, true} }

func isSameWorst(a, b worst) bool {
	return a.excess == b.excess && slices.Equal(a.coalitions, b.coalitions) && a.ok == b.ok
}

func worstResults() results[worst] {
	copied := func(w worst) worst { return worst{w.excess, slices.Clone(w.coalitions), w.ok} }
	change := func(t *testing.T, call string, w worst) { scribble(w.coalitions, -88) }
	return results[worst]{copied, change, isSameWorst}
}

// guardedPayoff is a game and a vector amid other memory.
type guardedPayoff struct {
	game   impl.Game
	values guarded[int]
	x      guarded[impl.Rat]
}

func guardPayoff(g impl.Game, x []impl.Rat) guardedPayoff {
	game, values := guardGame(g)
	return guardedPayoff{game, values, guardRats(x)}
}

func (p guardedPayoff) wantUnchanged(t *testing.T, call string) {
	t.Helper()
	p.values.wantUnchanged(t, call)
	p.x.wantUnchanged(t, call)
}

func (p guardedPayoff) scribble() {
	scribble(p.values.whole, -99)
	scribble(p.x.whole, pair(-99, 1))
}

func wantShare(t *testing.T, x []impl.Rat, s int, want rated) {
	t.Helper()
	v := guardRats(x)
	got := ratedBy(impl.ShareOf(v.given, s))
	for _, absent := range []bool{true, false} {
		if other := ratedBy(impl.ShareOf(hollow(x, absent), s)); other != want {
			got = other
		}
	}
	if got != want {
		t.Errorf("ShareOf(%v, %d) = %v; want %v", x, s, got, want)
	}
	v.wantUnchanged(t, "ShareOf")
}

// wantOfPayoff checks what a function that returns no slice says of a game and
// a vector, with nil and empty slices in place of those without elements.
func wantOfPayoff[R comparable](t *testing.T, call string, g impl.Game, x []impl.Rat, function func(g impl.Game, x []impl.Rat) R, want R) {
	t.Helper()
	v := guardRats(x)
	for _, x := range [][]impl.Rat{v.given, hollow(x, true), hollow(x, false)} {
		of := func(g impl.Game) R { return function(g, x) }
		wantOfGame(t, call+impl.FormatVector(x), g, of, want)
	}
	v.wantUnchanged(t, call)
}

func wantIsPayoff(t *testing.T, g impl.Game, x []impl.Rat, want bool) {
	t.Helper()
	wantOfPayoff(t, "IsPayoff ", g, x, impl.IsPayoff, want)
}

func wantInCore(t *testing.T, g impl.Game, x []impl.Rat, want bool) {
	t.Helper()
	wantOfPayoff(t, "InCore ", g, x, impl.InCore, want)
}

func wantImputation(t *testing.T, g impl.Game, x []impl.Rat, want bool) {
	t.Helper()
	wantOfPayoff(t, "IsImputation ", g, x, impl.IsImputation, want)
}

func wantExcess(t *testing.T, g impl.Game, x []impl.Rat, s int, want rated) {
	t.Helper()
	wantOfPayoff(t, fmt.Sprint("ExcessOf ", s, ": "), g, x, func(g impl.Game, x []impl.Rat) rated {
		return ratedBy(impl.ExcessOf(g, x, s))
	}, want)
}

func wantWorst(t *testing.T, g impl.Game, x []impl.Rat, want worst) {
	t.Helper()
	p := guardPayoff(g, x)
	got := worstResults().callTwice(t, "WorstExcess", p, func() worst {
		return worstBy(impl.WorstExcess(p.game, p.x.given))
	})
	for _, absent := range []bool{true, false} {
		if other := worstBy(impl.WorstExcess(hollowGame(g, absent), hollow(x, absent))); !isSameWorst(other, want) {
			got = other
		}
	}
	if !isSameWorst(got, want) {
		t.Errorf("WorstExcess(%v, %v) = %v; want %v", g, x, got, want)
	}
}

func wantExcesses(t *testing.T, g impl.Game, x []impl.Rat, want ...impl.Rat) {
	t.Helper()
	p := guardPayoff(g, x)
	got := listResults(pair(-88, 1)).callTwice(t, "ExcessVector", p, func() []impl.Rat {
		return impl.ExcessVector(p.game, p.x.given)
	})
	for _, absent := range []bool{true, false} {
		if other := impl.ExcessVector(hollowGame(g, absent), hollow(x, absent)); !slices.Equal(other, want) {
			got = other
		}
	}
	if !slices.Equal(got, want) {
		t.Errorf("ExcessVector(%v, %v) = %v; want %v", g, x, got, want)
	}
}

// wantCompared checks both orders of the lists.
func wantCompared(t *testing.T, a, b []impl.Rat, want int) {
	t.Helper()
	for range 2 {
		x, y := guardRats(a), guardRats(b)
		got := impl.CompareExcesses(x.given, y.given)
		for _, absent := range []bool{true, false} {
			if other := impl.CompareExcesses(hollow(a, absent), hollow(b, !absent)); other != want {
				got = other
			}
		}
		if got != want {
			t.Errorf("CompareExcesses(%v, %v) = %d; want %d", a, b, got, want)
		}
		x.wantUnchanged(t, "CompareExcesses")
		y.wantUnchanged(t, "CompareExcesses")
		a, b, want = b, a, -want
	}
}

// definedOrder is the definition of CompareRat.
func definedOrder(a, b impl.Rat) int {
	if !isPlainlyValid(a) || !isPlainlyValid(b) {
		return 0
	}
	return product(a.Num, b.Den).Cmp(product(b.Num, a.Den))
}

// definedShare is the definition of ShareOf.
func definedShare(x []impl.Rat, s int) rated {
	if s < 0 || s > 31 {
		return rated{}
	}
	sum := ratedAt(0, 1)
	for k := range 5 {
		if !isIn(s, k) {
			continue
		}
		if k >= len(x) {
			return rated{}
		}
		if sum = ratedBy(wantedOperation("+", sum.r, x[k])); !sum.ok {
			return rated{}
		}
	}
	return sum
}

// definedExcess is the definition of ExcessOf.
func definedExcess(g impl.Game, x []impl.Rat, s int) rated {
	if !definedGame(g) || s < 0 || s >= len(g.Values) {
		return rated{}
	}
	share := definedShare(x, s)
	if !share.ok {
		return rated{}
	}
	return ratedBy(wantedOperation("-", pair(g.Values[s], 1), share.r))
}

// verdict is what the document's definitions say of a game and a vector.
type verdict struct {
	isPayoff, fits, inCore, isImputation bool
	worst                                worst
	excesses                             []impl.Rat
}

// judged computes it from the definitions: whatever is said of all coalitions is
// computed of each one.
func judged(g impl.Game, x []impl.Rat) verdict {
	var v verdict
	if !definedGame(g) || len(x) != g.Players || slices.ContainsFunc(x, func(r impl.Rat) bool { return !isPlainlyValid(r) }) {
		return v
	}
	everyone := len(g.Values) - 1
	if definedShare(x, everyone) != ratedAt(g.Values[everyone], 1) {
		return v
	}
	v.isPayoff, v.fits, v.inCore, v.isImputation = true, true, true, true
	for k, r := range x {
		v.isImputation = v.isImputation && definedOrder(r, pair(g.Values[1<<k], 1)) >= 0
	}
	for s := range g.Values {
		e := definedExcess(g, x, s)
		v.fits, v.inCore = v.fits && e.ok, v.inCore && e.ok && e.r.Num <= 0
		if s > 0 && s < everyone {
			v.excesses = append(v.excesses, e.r)
		}
	}
	if !v.fits {
		v.excesses = nil
		return v
	}
	for i, e := range v.excesses {
		if !slices.ContainsFunc(v.excesses, func(other impl.Rat) bool { return definedOrder(other, e) > 0 }) {
			v.worst = worstAt(e, append(v.worst.coalitions, i+1)...)
		}
	}
	slices.SortFunc(v.excesses, func(a, b impl.Rat) int { return -definedOrder(a, b) })
	return v
}

// wantJudged compares all functions with their definitions, and returns what
// these say.
func wantJudged(t *testing.T, g impl.Game, x []impl.Rat) verdict {
	t.Helper()
	v := judged(g, x)
	wantIsPayoff(t, g, x, v.isPayoff)
	wantInCore(t, g, x, v.inCore)
	wantImputation(t, g, x, v.isImputation)
	wantWorst(t, g, x, v.worst)
	wantExcesses(t, g, x, v.excesses...)
	for s := -1; s <= 33; s++ {
		if want := definedExcess(g, x, s); ratedBy(impl.ExcessOf(g, x, s)) != want {
			t.Errorf("ExcessOf(%v, %v, %d) is not %v", g, x, s, want)
		}
		if want := definedShare(x, s); ratedBy(impl.ShareOf(x, s)) != want {
			t.Errorf("ShareOf(%v, %d) is not %v", x, s, want)
		}
	}
	return v
}

// wantNoPayoff checks that no function accepts the vector, whatever the game is.
func wantNoPayoff(t *testing.T, g impl.Game, x []impl.Rat) {
	t.Helper()
	wantIsPayoff(t, g, x, false)
	wantInCore(t, g, x, false)
	wantImputation(t, g, x, false)
	wantWorst(t, g, x, worst{})
	wantExcesses(t, g, x)
}

// doubling is a vector with the elements 1, 2, 4 and so on, divided by d: the
// share of a coalition is its number, divided by d.
func doubling(length, d int) []impl.Rat {
	var v []impl.Rat
	for k := range length {
		r, _ := impl.RatOf(1<<k, d)
		v = append(v, r)
	}
	return v
}

func TestShareOfEveryCoalition(t *testing.T) {
	for length := range 8 {
		for _, d := range []int{1, 3, 1000003} {
			x := doubling(length, d)
			for s := range 32 {
				want, _ := impl.RatOf(s, d)
				if s < 1<<length {
					wantShare(t, x, s, rated{want, true})
				} else {
					wantShare(t, x, s, rated{})
				}
			}
		}
	}
}

func TestShareOfOtherNumbers(t *testing.T) {
	for _, s := range noCoalitions() {
		for _, x := range [][]impl.Rat{nil, wholes(1), doubling(5, 1), doubling(6, 1), doubling(7, 3), slices.Repeat(wholes(0), 64)} {
			wantShare(t, x, s, rated{})
		}
	}
	wantShare(t, doubling(6, 1), -1, rated{})
	wantShare(t, doubling(6, 1), 31, ratedAt(31, 1))
	wantShare(t, doubling(6, 1), 32, rated{})
	wantShare(t, doubling(4, 1), 31, rated{})
	wantShare(t, nil, 0, ratedAt(0, 1))
	wantShare(t, nil, 1, rated{})
	wantShare(t, nil, 31, rated{})
}

func TestShareOfSumsThatDoNotFit(t *testing.T) {
	x := wholes(greatestPart, 1, -1)
	for s, want := range []rated{
		ratedAt(0, 1), ratedAt(greatestPart, 1), ratedAt(1, 1), {},
		ratedAt(-1, 1), ratedAt(greatestPart-1, 1), ratedAt(0, 1), {},
	} {
		wantShare(t, x, s, want)
		opposite := want
		opposite.r.Num = -want.r.Num
		wantShare(t, wholes(-greatestPart, -1, 1), s, opposite)
	}
	wantShare(t, wholes(greatestPart, -1, 1), 7, ratedAt(greatestPart, 1))
	wantShare(t, wholes(greatestPart, -1, 1), 5, rated{})
	wantShare(t, wholes(1, greatestPart-1, 1), 3, ratedAt(greatestPart, 1))
	wantShare(t, wholes(1, greatestPart-1, 1), 7, rated{})
	wantShare(t, wholes(-1, greatestPart, 1), 7, ratedAt(greatestPart, 1))
	wantShare(t, wholes(-1, greatestPart, 1), 6, rated{})
	wantShare(t, wholes(1, 1, 1, 1, greatestPart-4), 31, ratedAt(greatestPart, 1))
	wantShare(t, wholes(1, 1, 1, 1, greatestPart-3), 31, rated{})
	wantShare(t, wholes(greatestPart, greatestPart, -greatestPart, -greatestPart, 0), 31, rated{})
	wantShare(t, wholes(greatestPart, -greatestPart, greatestPart, -greatestPart, 5), 31, ratedAt(5, 1))
	tiny := pair(1, greatestPart)
	wantShare(t, parts(tiny, pair(1, 3), pair(-1, 3)), 7, rated{})
	wantShare(t, parts(pair(1, 3), pair(-1, 3), tiny), 7, rated{tiny, true})
	wantShare(t, parts(tiny, pair(0, 1), pair(greatestPart-1, greatestPart)), 7, ratedAt(1, 1))
	// The sum would be valid, but the numerator before reduction is too great.
	wantShare(t, parts(pair(3, greatestPart), pair(greatestPart-1, greatestPart)), 3, rated{})
}

// TestShareOfBadFractions has one in each place: it matters to its own
// coalitions alone.
func TestShareOfBadFractions(t *testing.T) {
	for _, bad := range badRats() {
		for k := range 7 {
			x := with(doubling(7, 1), k, bad)
			for s := range 32 {
				if k < 5 && isIn(s, k) {
					wantShare(t, x, s, rated{})
				} else {
					wantShare(t, x, s, ratedAt(s, 1))
				}
			}
		}
		for s := range 32 {
			want := rated{}
			if s == 0 {
				want = ratedAt(0, 1)
			}
			wantShare(t, slices.Repeat(parts(bad), 5), s, want)
		}
	}
}

func TestShareOfAgainstItsDefinition(t *testing.T) {
	for length := range 4 {
		list := strangeRats()
		if length == 3 {
			list = []impl.Rat{list[1], list[2], list[4], list[5], list[6], list[7], list[8], list[9], list[11]}
		}
		for _, x := range vectorsOver(list, length) {
			for s := range 16 {
				wantShare(t, x, s, definedShare(x, s))
			}
		}
	}
	for _, x := range slices.Concat(variedVectors(greatRats(), 5), variedVectors(smallRats(), 5)) {
		for _, s := range []int{3, 7, 21, 24, 30, 31} {
			wantShare(t, x, s, definedShare(x, s))
		}
	}
}

func TestExcessOfEveryCoalition(t *testing.T) {
	for n := 1; n <= impl.MaxPlayers; n++ {
		for _, d := range []int{1, 3, 1000003} {
			for _, g := range []impl.Game{plainGame(n), flatGame(n, 0), flatGame(n, greatestValue), flatGame(n, -greatestValue)} {
				for s, value := range g.Values {
					want, ok := impl.RatOf(value*d-s, d)
					wantExcess(t, g, doubling(n, d), s, rated{want, ok})
					wantExcess(t, g, doubling(n+2, d), s, rated{want, ok})
				}
				for _, s := range append(beyondPlaces(1<<n), noCoalitions()...) {
					if s < 0 || s >= 1<<n {
						wantExcess(t, g, doubling(n, d), s, rated{})
						wantExcess(t, g, doubling(7, d), s, rated{})
					}
				}
			}
		}
	}
}

// TestExcessOfCoalitionsBeyondTheGame has elements for players that the game
// does not have.
func TestExcessOfCoalitionsBeyondTheGame(t *testing.T) {
	for n := 1; n <= impl.MaxPlayers; n++ {
		for s := range 64 {
			want := rated{}
			if s < 1<<n {
				want = ratedAt(5-s, 1)
			}
			if s == 0 {
				want = ratedAt(0, 1)
			}
			wantExcess(t, flatGame(n, 5), doubling(6, 1), s, want)
		}
	}
}

// TestExcessOfFewElements has players without an element: the coalitions of the
// others have an excess nevertheless.
func TestExcessOfFewElements(t *testing.T) {
	for n := 1; n <= impl.MaxPlayers; n++ {
		for length := range n {
			for s := range 1 << n {
				want := ratedAt(plainGame(n).Values[s]-s, 1)
				if s >= 1<<length {
					want = rated{}
				}
				wantExcess(t, plainGame(n), doubling(length, 1), s, want)
			}
		}
	}
}

func TestExcessOfFractionsThatDoNotFit(t *testing.T) {
	g := game(2, 1, -1, 0)
	most, least := greatestPart, -greatestPart
	wantExcess(t, g, wholes(most, most), 1, ratedAt(1-most, 1))
	wantExcess(t, g, wholes(least, most), 1, rated{})
	wantExcess(t, g, wholes(least+1, most), 1, ratedAt(most, 1))
	wantExcess(t, g, wholes(most, most), 2, rated{})
	wantExcess(t, g, wholes(most, most-1), 2, ratedAt(least, 1))
	wantExcess(t, g, wholes(most, least), 2, ratedAt(most-1, 1))
	wantExcess(t, g, wholes(most, least), 3, ratedAt(0, 1))
	wantExcess(t, g, wholes(most, most), 3, rated{})
	wantExcess(t, g, wholes(most, most), 0, ratedAt(0, 1))
	tiny := pair(1, most)
	wantExcess(t, game(1, 0), parts(tiny), 1, ratedAt(-1, most))
	wantExcess(t, game(1, 1), parts(tiny), 1, ratedAt(most-1, most))
	wantExcess(t, game(1, -1), parts(tiny), 1, rated{})
	wantExcess(t, game(1, 2), parts(tiny), 1, rated{})
	wantExcess(t, game(1, -1), parts(pair(-1, most)), 1, ratedAt(1-most, most))
	wantExcess(t, game(1, greatestValue), parts(pair(1, 2000000)), 1, ratedAt(999999999, 2000000))
	wantExcess(t, game(1, -greatestValue), parts(pair(1, 2000000)), 1, rated{})
	wantExcess(t, game(1, greatestValue), parts(pair(-1, 2000000)), 1, rated{})
}

func TestExcessOfBadFractions(t *testing.T) {
	for _, bad := range badRats() {
		for n := 1; n <= impl.MaxPlayers; n++ {
			for k := range n + 1 {
				x := with(doubling(n+1, 1), k, bad)
				for s := range 1 << n {
					want := ratedAt(plainGame(n).Values[s]-s, 1)
					if k < n && isIn(s, k) {
						want = rated{}
					}
					wantExcess(t, plainGame(n), x, s, want)
				}
			}
		}
	}
}

func TestIsPayoffKnownPayoffs(t *testing.T) {
	wantIsPayoff(t, game(1, 5), wholes(5), true)
	wantIsPayoff(t, game(1, 5), wholes(4), false)
	wantIsPayoff(t, game(1, 0), wholes(0), true)
	wantIsPayoff(t, game(1, -5), wholes(-5), true)
	wantIsPayoff(t, game(1, -5), wholes(5), false)
	wantIsPayoff(t, game(1, 0), nil, false)
	wantIsPayoff(t, game(2, 1, 2, 5), wholes(2, 3), true)
	wantIsPayoff(t, game(2, 1, 2, 5), wholes(7, -2), true)
	wantIsPayoff(t, game(2, 1, 2, 5), parts(pair(5, 2), pair(5, 2)), true)
	wantIsPayoff(t, game(2, 1, 2, 5), parts(pair(5, 2), pair(5, 3)), false)
	wantIsPayoff(t, game(3, 0, 0, 6, 0, 6, 6, 6), wholes(2, 2, 2), true)
	wantIsPayoff(t, game(3, 0, 0, 6, 0, 6, 6, 6), wholes(2, 2, 1), false)
	wantIsPayoff(t, game(3, 9, 9, 9, 9, 9, 9, 1), parts(pair(1, 3), pair(1, 6), pair(1, 2)), true)
}

// TestIsPayoffLengths has vectors of every length whose elements have the sum of
// a payoff, all of them or those of the players.
func TestIsPayoffLengths(t *testing.T) {
	for n := 1; n <= impl.MaxPlayers; n++ {
		for length := range 10 {
			zeros := slices.Repeat(wholes(0), length)
			wantIsPayoff(t, flatGame(n, 0), zeros, length == n)
			if length != n {
				wantNoPayoff(t, flatGame(n, 0), zeros)
			}
			for k := range length {
				x := with(zeros, k, pair(7, 1))
				wantIsPayoff(t, flatGame(n, 7), x, length == n)
				wantIsPayoff(t, flatGame(n, 0), x, false)
			}
		}
	}
}

// TestIsPayoffSums has payoffs, and each of them with one element that is
// greater or smaller.
func TestIsPayoffSums(t *testing.T) {
	steps := []impl.Rat{pair(1, 1), pair(1, 2), pair(-1, 1), pair(-1, 3), pair(1, 1000), pair(-1, 1000), pair(600, 1), pair(-1000, 1)}
	for n := 1; n <= impl.MaxPlayers; n++ {
		for _, value := range []int{0, 1, -1, 30, -77, greatestValue, -greatestValue} {
			g := valued(plainGame(n), 1<<n-1, value)
			for _, x := range payoffsOf(n, value) {
				wantIsPayoff(t, g, x, true)
				for k := range n {
					for _, step := range steps {
						changed, _ := impl.AddRat(x[k], step)
						wantNoPayoff(t, g, with(x, k, changed))
					}
					wantNoPayoff(t, g, with(x, k, pair(greatestPart, 1)))
					wantNoPayoff(t, g, with(x, k, pair(-greatestPart, 1)))
					wantNoPayoff(t, g, append(slices.Clone(x), pair(0, 1)))
					wantNoPayoff(t, g, x[:n-1])
				}
			}
		}
	}
}

// payoffsOf are some payoffs of n players who earn so much.
func payoffsOf(n, value int) [][]impl.Rat {
	equal, _ := impl.RatOf(value, n)
	several := parts(pair(1, 2), pair(-7, 3), pair(40, 1), pair(0, 1))
	return [][]impl.Rat{
		slices.Repeat(parts(equal), n),
		completed(slices.Repeat(wholes(0), n-1), value),
		completed(several[:n-1], value),
	}
}

// completed leaves the rest to the last player: it is the zero Rat if it does
// not fit.
func completed(x []impl.Rat, value int) []impl.Rat {
	last := pair(value, 1)
	for _, r := range x {
		last, _ = wantedOperation("-", last, r)
	}
	return append(slices.Clone(x), last)
}

func TestIsPayoffSumsThatDoNotFit(t *testing.T) {
	most := greatestPart
	g := game(3, 0, 0, 0, 0, 0, 0, 1)
	wantIsPayoff(t, g, wholes(most, -most, 1), true)
	wantIsPayoff(t, g, wholes(most, 1, -most), false)
	wantIsPayoff(t, g, wholes(1, most, -most), false)
	wantIsPayoff(t, g, wholes(1, -most, most), true)
	wantIsPayoff(t, g, wholes(most, 1-most, 0), true)
	wantIsPayoff(t, g, wholes(most, most, most), false)
	wantIsPayoff(t, flatGame(5, 500), wholes(most, -most, most, -most, 500), true)
	wantIsPayoff(t, flatGame(5, 500), wholes(most, -most, most, 500, -most), false)
	tiny := pair(1, most)
	wantIsPayoff(t, g, parts(tiny, pair(-1, most), pair(1, 1)), true)
	wantIsPayoff(t, g, parts(tiny, pair(most-1, most), pair(0, 1)), true)
	wantIsPayoff(t, g, parts(tiny, pair(1, 1), pair(-1, most)), false)
	wantIsPayoff(t, g, parts(pair(-1, most), pair(1, 1), tiny), true)
	wantIsPayoff(t, g, parts(pair(0, 1), pair(most-1, most), pair(0, 1)), false)
	wantIsPayoff(t, g, parts(pair(1, 1), pair(0, 1), tiny), false)
}

// TestBadFractionsAreNoPayoffs has a bad fraction in each place of a vector that
// is a payoff without it, or if fractions were added without being reduced.
func TestBadFractionsAreNoPayoffs(t *testing.T) {
	for _, bad := range badRats() {
		for n := 1; n <= impl.MaxPlayers; n++ {
			for k := range n {
				wantNoPayoff(t, flatGame(n, 0), with(slices.Repeat(wholes(0), n), k, bad))
				wantNoPayoff(t, flatGame(n, 2), with(slices.Repeat(wholes(1), n), k, bad))
			}
			wantNoPayoff(t, flatGame(n, 0), slices.Repeat(parts(bad), n))
		}
	}
	wantNoPayoff(t, game(1, 2), parts(pair(4, 2)))
	wantNoPayoff(t, game(1, 2), parts(pair(-2, -1)))
	wantNoPayoff(t, game(2, 0, 0, 1), parts(pair(2, 4), pair(1, 2)))
	wantNoPayoff(t, game(2, 0, 0, 1), parts(pair(1, 2), pair(2, 4)))
	wantNoPayoff(t, game(2, 0, 0, 0), parts(pair(1<<62, 1), pair(-1<<62, 1)))
	wantNoPayoff(t, game(2, 0, 0, 0), parts(pair(math.MinInt, 1), pair(math.MinInt, 1)))
	wantNoPayoff(t, game(2, 0, 0, 0), parts(pair(greatestPart+1, 1), pair(-greatestPart-1, 1)))
}

func TestPayoffsOfSpoiledGames(t *testing.T) {
	for n := 1; n <= impl.MaxPlayers; n++ {
		for _, g := range []impl.Game{plainGame(n), flatGame(n, 0), flatGame(n, 7)} {
			x := with(slices.Repeat(wholes(0), n), 0, pair(impl.GrandValue(g), 1))
			wantIsPayoff(t, g, x, true)
			for _, spoiled := range append(spoiledGames(g), impl.Game{Players: n}, impl.Game{}) {
				wantNoPayoff(t, spoiled, x)
				for _, s := range []int{-1, 0, 1, 1<<n - 1, 1 << n} {
					wantExcess(t, spoiled, x, s, rated{})
				}
			}
		}
	}
}

// TestPayoffsOfNobodyAndOfMany has vectors with as many elements as the number
// of players says, as far as there is one.
func TestPayoffsOfNobodyAndOfMany(t *testing.T) {
	for _, g := range []impl.Game{{}, {Players: 0, Values: []int{0}}, {Players: -1, Values: []int{0}}, {Players: 1, Values: []int{0}}} {
		for length := range 3 {
			wantNoPayoff(t, g, slices.Repeat(wholes(0), length))
			wantExcess(t, g, slices.Repeat(wholes(0), length), 0, rated{})
		}
	}
	for players := 6; players <= 10; players++ {
		g := impl.Game{Players: players, Values: make([]int, 1<<players)}
		wantNoPayoff(t, g, slices.Repeat(wholes(0), players))
		wantNoPayoff(t, g, slices.Repeat(wholes(0), 5))
		for _, s := range []int{0, 1, 31, 32, 63} {
			wantExcess(t, g, slices.Repeat(wholes(0), players), s, rated{})
		}
	}
}

func TestWorstExcessKnownExcesses(t *testing.T) {
	g := game(3, 0, 0, 6, 0, 6, 6, 6)
	wantWorst(t, g, wholes(2, 2, 2), worstAt(pair(2, 1), 3, 5, 6))
	wantWorst(t, g, wholes(5, 1, 0), worstAt(pair(5, 1), 6))
	wantWorst(t, g, wholes(3, 3, 0), worstAt(pair(3, 1), 5, 6))
	wantWorst(t, g, wholes(6, 0, 0), worstAt(pair(6, 1), 6))
	wantWorst(t, g, wholes(0, 0, 6), worstAt(pair(6, 1), 3))
	wantWorst(t, g, wholes(7, 0, -1), worstAt(pair(7, 1), 6))
	wantWorst(t, g, parts(pair(5, 2), pair(5, 2), pair(1, 1)), worstAt(pair(5, 2), 5, 6))
	wantWorst(t, game(2, 1, 2, 5), wholes(2, 3), worstAt(pair(-1, 1), 1, 2))
	wantWorst(t, game(2, 1, 2, 5), wholes(1, 4), worstAt(pair(0, 1), 1))
	wantWorst(t, game(2, 1, 2, 5), wholes(4, 1), worstAt(pair(1, 1), 2))
	wantWorst(t, game(2, 1, 2, 5), parts(pair(7, 3), pair(8, 3)), worstAt(pair(-2, 3), 2))
	wantWorst(t, game(2, 1, 2, 5), wholes(4, 2), worst{})
	wantWorst(t, game(2, -5, -7, -9), wholes(-3, -6), worstAt(pair(-1, 1), 2))
	wantWorst(t, game(3, 1, 2, 3, 3, 4, 5, 6), wholes(1, 2, 3), worstAt(pair(0, 1), 1, 2, 3, 4, 5, 6))
	wantWorst(t, game(3, 1, 2, 3, 3, 4, 5, 60), wholes(19, 20, 21), worstAt(pair(-18, 1), 1, 2, 4))
}

func TestWorstExcessOfOnePlayer(t *testing.T) {
	for value := -greatestValue; value <= greatestValue; value++ {
		g, x := game(1, value), wholes(value)
		wantIsPayoff(t, g, x, true)
		wantWorst(t, g, x, worst{})
		wantExcesses(t, g, x)
		wantInCore(t, g, x, true)
		wantImputation(t, g, x, true)
		wantNoPayoff(t, g, wholes(value+1))
		wantNoPayoff(t, g, wholes(value-1))
		wantNoPayoff(t, g, parts(pair(2*value+1, 2)))
	}
}

// fittedGame gives each coalition, except that of all players, the share that it
// has of a vector of integers, and more if it is one of those of a list.
func fittedGame(x []int, more int, coalitions ...int) impl.Game {
	g := valuedBy(len(x), func(s int) int {
		sum := 0
		for k, n := range x {
			if isIn(s, k) {
				sum += n
			}
		}
		return sum
	})
	for _, s := range coalitions {
		g.Values[s] += more
	}
	return g
}

// TestWorstExcessOfOneCoalition has one coalition that has the worst excess, and
// then each pair of them.
func TestWorstExcessOfOneCoalition(t *testing.T) {
	x := []int{4, -3, 0, 7, 11}
	for n := 2; n <= impl.MaxPlayers; n++ {
		everyone := 1<<n - 1
		all := impl.Union(everyone-1, 1)
		for s := 1; s < all; s++ {
			for other := 1; other < all; other++ {
				g := fittedGame(x[:n], 2, slices.Compact([]int{s, other})...)
				list := slices.Compact([]int{min(s, other), max(s, other)})
				wantWorst(t, g, wholes(x[:n]...), worstAt(pair(2, 1), list...))
				wantInCore(t, g, wholes(x[:n]...), false)
				wantImputation(t, g, wholes(x[:n]...), impl.SizeOf(s) > 1 && impl.SizeOf(other) > 1)
			}
		}
	}
}

// TestWorstExcessOfEveryCoalition has the same excess for all coalitions.
func TestWorstExcessOfEveryCoalition(t *testing.T) {
	x := []int{4, -3, 0, 7, 11}
	for n := 2; n <= impl.MaxPlayers; n++ {
		var every []int
		for s := 1; s < 1<<n-1; s++ {
			every = append(every, s)
		}
		for more := -3; more <= 3; more++ {
			g := fittedGame(x[:n], more, every...)
			wantWorst(t, g, wholes(x[:n]...), worstAt(pair(more, 1), every...))
			wantExcesses(t, g, wholes(x[:n]...), slices.Repeat(wholes(more), len(every))...)
			wantInCore(t, g, wholes(x[:n]...), more <= 0)
			wantImputation(t, g, wholes(x[:n]...), more <= 0)
		}
	}
}

// TestExcessesThatDoNotFitAnywhere has one coalition whose excess does not fit;
// it is the worst one, or one that is better than others.
func TestExcessesThatDoNotFitAnywhere(t *testing.T) {
	most := greatestPart
	for _, c := range []struct {
		g    impl.Game
		x    []impl.Rat
		fits bool
	}{
		{game(2, 0, 0, 0), wholes(most, -most), true},
		{game(2, 1, 0, 0), wholes(most, -most), true},
		{game(2, 0, 1, 0), wholes(most, -most), false},
		{game(2, -1, 0, 0), wholes(most, -most), false},
		{game(2, -1, 0, 1), wholes(most-1, 2-most), true},
		{game(2, -1, 2, 1), wholes(most-1, 2-most), true},
		{game(2, -1, 3, 1), wholes(most-1, 2-most), false},
		{game(2, -2, 2, 1), wholes(most-1, 2-most), false},
		{game(3, 0, 0, 0, 0, 0, 0, 0), wholes(most, -1, 1-most), true},
		{game(3, 0, 0, -1, 0, 0, 0, 0), wholes(most, -1, 1-most), true},
		{game(3, 0, 0, -2, 0, 0, 0, 0), wholes(most, -1, 1-most), false},
		// The share of the first and the last player does not fit.
		{game(3, 0, 0, 0, 0, 0, 0, 0), wholes(most, -most, 0), true},
		{game(3, 0, 0, 0, 0, 500, 0, 0), wholes(most, -most, 0), true},
		{game(3, 0, 0, 0, 0, 500, 0, 1), wholes(most, -most, 1), false},
		{game(3, 0, 0, 0, 0, -500, 0, -1), wholes(-most, most, -1), false},
		{game(2, 0, 0, 0), parts(pair(1, most), pair(-1, most)), true},
		{game(2, 1, 0, 0), parts(pair(1, most), pair(-1, most)), true},
		{game(2, 0, -1, 0), parts(pair(1, most), pair(-1, most)), true},
		{game(2, -1, 0, 0), parts(pair(1, most), pair(-1, most)), false},
		{game(2, 0, 1, 0), parts(pair(1, most), pair(-1, most)), false},
	} {
		if v := wantJudged(t, c.g, c.x); !v.isPayoff || v.fits != c.fits {
			t.Errorf("%v of %v is %v", c.x, c.g, v)
		}
	}
}

// TestImputationsWithExcessesThatDoNotFit has coalitions that get more than they
// earn, by a difference that is no valid fraction.
func TestImputationsWithExcessesThatDoNotFit(t *testing.T) {
	tiny, rest := pair(1, greatestPart), pair(greatestPart-1, greatestPart)
	for _, c := range []struct {
		g                    impl.Game
		x                    []impl.Rat
		isImputation, inCore bool
	}{
		{game(2, 0, 0, 1), parts(tiny, rest), true, true},
		{game(2, -greatestValue, 0, 1), parts(tiny, rest), true, false},
		{game(2, -1, 0, 1), parts(tiny, rest), true, false},
		{game(2, -1, 1, 1), parts(tiny, rest), false, false},
		{game(2, 0, 1, 1), parts(tiny, rest), false, false},
		{game(2, 0, 0, 1), parts(rest, tiny), true, true},
		{game(2, 0, -greatestValue, 1), parts(rest, tiny), true, false},
		{game(2, 0, -1, 1), parts(rest, tiny), true, false},
		{game(2, 1, -1, 1), parts(rest, tiny), false, false},
		{game(3, 0, 0, -1, -greatestValue, 0, 0, 1), parts(rest, pair(0, 1), tiny), true, false},
		{game(3, 0, 0, 0, 0, -1, 0, 1), parts(rest, tiny, pair(0, 1)), true, false},
		{game(3, 0, 0, 0, 0, 0, 0, 1), parts(rest, tiny, pair(0, 1)), true, true},
	} {
		wantImputation(t, c.g, c.x, c.isImputation)
		wantInCore(t, c.g, c.x, c.inCore)
		if v := wantJudged(t, c.g, c.x); v.fits != c.inCore && c.isImputation {
			t.Errorf("%v of %v is %v", c.x, c.g, v)
		}
	}
}

// TestInCoreAtTheLimit has a payoff with a different share for each coalition.
// The values of all but one are below their shares by less than 1.
func TestInCoreAtTheLimit(t *testing.T) {
	for n := 2; n <= impl.MaxPlayers; n++ {
		everyone := 1<<n - 1
		x := doubling(n, everyone)
		g := valued(flatGame(n, 0), everyone, 1)
		wantInCore(t, g, x, true)
		wantImputation(t, g, x, true)
		wantWorst(t, g, x, worstAt(pair(-1, everyone), 1))
		for s := 1; s < everyone; s++ {
			above, _ := impl.RatOf(everyone-s, everyone)
			wantInCore(t, valued(g, s, 1), x, false)
			wantWorst(t, valued(g, s, 1), x, worstAt(above, s))
			wantImputation(t, valued(g, s, 1), x, impl.SizeOf(s) > 1)
			wantInCore(t, valued(g, s, -1), x, true)
		}
	}
}

// TestInCoreOfEveryExcess has one coalition with an excess just below 0, at 0 or
// just above it, and others with excesses that are far below.
func TestInCoreOfEveryExcess(t *testing.T) {
	tiny := pair(1, 1000000)
	for n := 2; n <= impl.MaxPlayers; n++ {
		everyone := 1<<n - 1
		for s := 1; s < everyone; s++ {
			inside, outside := impl.MembersOf(s)[0], impl.MembersOf(everyone - s)[0]
			for _, step := range []impl.Rat{pair(0, 1), tiny, pair(-1, 1000000), pair(1, 2), pair(-1, 2)} {
				g := valued(flatGame(n, -20), everyone, 7*n)
				g.Values[s] = 7 * impl.SizeOf(s)
				x := slices.Repeat(wholes(7), n)
				x[inside], _ = impl.AddRat(x[inside], step)
				x[outside], _ = impl.SubRat(x[outside], step)
				wantWorst(t, g, x, worstAt(pair(-step.Num, step.Den), s))
				wantInCore(t, g, x, step.Num >= 0)
				wantImputation(t, g, x, step.Num >= 0 || impl.SizeOf(s) > 1)
			}
		}
	}
}

func TestInCoreKnownPayoffs(t *testing.T) {
	wantInCore(t, game(2, 1, 2, 5), wholes(2, 3), true)
	wantInCore(t, game(2, 1, 2, 5), wholes(1, 4), true)
	wantInCore(t, game(2, 1, 2, 5), wholes(3, 2), true)
	wantInCore(t, game(2, 1, 2, 5), wholes(4, 1), false)
	wantInCore(t, game(2, 1, 2, 5), wholes(0, 5), false)
	wantInCore(t, game(2, 1, 2, 5), wholes(3, 3), false)
	wantInCore(t, game(2, 1, 2, 5), wholes(2, 2), false)
	wantInCore(t, game(2, 1, 2, 3), wholes(1, 2), true)
	wantInCore(t, game(2, 1, 2, 2), wholes(1, 1), false)
	wantInCore(t, game(3, 0, 0, 6, 0, 6, 6, 6), wholes(2, 2, 2), false)
	wantInCore(t, game(3, 0, 0, 6, 0, 6, 6, 9), wholes(3, 3, 3), true)
	wantInCore(t, game(3, 0, 0, 6, 0, 6, 6, 9), wholes(3, 4, 2), false)
	wantInCore(t, game(3, 0, 0, 0, 0, 0, 0, 0), wholes(0, 0, 0), true)
	wantInCore(t, game(3, 0, 0, 0, 0, 0, 0, 0), wholes(1, 0, -1), false)
	// The greatest value is no reason beside the excess.
	wantInCore(t, game(2, -1, -1, -2), wholes(-1, -1), true)
	wantInCore(t, game(2, -1, 0, -2), wholes(-1, -1), false)
}

func TestIsImputationKnownPayoffs(t *testing.T) {
	g := game(3, 0, 0, 6, 0, 6, 6, 6)
	wantImputation(t, g, wholes(2, 2, 2), true)
	wantImputation(t, g, wholes(6, 0, 0), true)
	wantImputation(t, g, wholes(7, -1, 0), false)
	wantImputation(t, g, parts(pair(13, 2), pair(-1, 2), pair(0, 1)), false)
	wantImputation(t, g, wholes(2, 2, 3), false)
	wantImputation(t, game(2, 1, 2, 3), wholes(1, 2), true)
	wantImputation(t, game(2, 1, 2, 3), wholes(2, 1), false)
	wantImputation(t, game(2, 1, 2, 2), wholes(1, 1), false)
	wantImputation(t, game(2, -3, -4, -7), wholes(-3, -4), true)
	wantImputation(t, game(2, -3, -4, -7), wholes(-4, -3), false)
}

// TestIsImputationOfEveryPlayer has payoffs that give each player exactly what
// this player earns alone, or one player a little less.
func TestIsImputationOfEveryPlayer(t *testing.T) {
	alone := []int{4, -3, 0, greatestValue - 1, -greatestValue}
	for n := 2; n <= impl.MaxPlayers; n++ {
		g := flatGame(n, greatestValue)
		for k, value := range alone[:n] {
			g.Values[1<<k] = value
		}
		g.Values[1<<n-1] = dotOfInts(alone[:n], slices.Repeat([]int{1}, n))
		x := wholes(alone[:n]...)
		wantImputation(t, g, x, true)
		for _, less := range []impl.Rat{pair(1, 1), pair(1, 2), pair(1, 1000000)} {
			for k := range n {
				other := (k + 1) % n
				y := slices.Clone(x)
				y[k], _ = impl.SubRat(y[k], less)
				y[other], _ = impl.AddRat(y[other], less)
				wantIsPayoff(t, g, y, true)
				wantImputation(t, g, y, false)
				wantImputation(t, valued(g, 1<<k, alone[k]-1), y, alone[k] > -greatestValue)
			}
		}
	}
}

func TestExcessVectorKnownExcesses(t *testing.T) {
	g := game(3, 0, 0, 6, 0, 6, 6, 6)
	wantExcesses(t, g, wholes(5, 1, 0), wholes(5, 1, 0, 0, -1, -5)...)
	wantExcesses(t, g, wholes(2, 2, 2), wholes(2, 2, 2, -2, -2, -2)...)
	wantExcesses(t, g, wholes(2, 2, 1))
	wantExcesses(t, game(2, 1, 2, 5), wholes(2, 3), wholes(-1, -1)...)
	wantExcesses(t, game(2, 1, 2, 5), wholes(4, 1), wholes(1, -3)...)
	wantExcesses(t, game(2, 1, 2, 5), wholes(1, 4), wholes(0, -2)...)
	wantExcesses(t, game(2, 1, 2, 5), parts(pair(7, 3), pair(8, 3)), pair(-2, 3), pair(-4, 3))
	wantExcesses(t, game(2, 1, 2, 5), parts(pair(8, 3), pair(7, 3)), pair(-1, 3), pair(-5, 3))
	wantExcesses(t, game(1, 3), wholes(3))
	wantExcesses(t, game(1, 3), wholes(2))
}

// TestExcessVectorOrder has excesses that rise or fall with the number of the
// coalition, or with its digits in another order.
func TestExcessVectorOrder(t *testing.T) {
	for n := 2; n <= impl.MaxPlayers; n++ {
		everyone := 1<<n - 1
		var falling []impl.Rat
		for s := 1; s < everyone; s++ {
			falling = append(falling, pair(-s, 1))
		}
		x := doubling(n, 1)
		wantExcesses(t, valued(flatGame(n, 0), everyone, everyone), x, falling...)
		wantExcesses(t, valuedBy(n, func(s int) int {
			if s == everyone {
				return s
			}
			return 2*s - everyone
		}), x, falling...)
		slices.Reverse(x)
		wantExcesses(t, valued(flatGame(n, 0), everyone, everyone), x, falling...)
		for i := range falling {
			falling[i], _ = impl.RatOf(falling[i].Num, everyone)
		}
		wantExcesses(t, valued(flatGame(n, 0), everyone, 1), doubling(n, everyone), falling...)
	}
}

// TestExcessVectorOfFractions has excesses whose order is neither that of their
// numerators nor that of their denominators.
func TestExcessVectorOfFractions(t *testing.T) {
	x := parts(pair(1, 2), pair(-5, 3), pair(13, 6))
	g := game(3, 1, -1, 0, 2, 3, 0, 1)
	wantExcesses(t, g, x, pair(7, 6), pair(2, 3), pair(1, 2), pair(1, 3), pair(-1, 6), pair(-1, 2))
	wantWorst(t, g, x, worstAt(pair(7, 6), 3))
}

func TestCompareExcessesKnownLists(t *testing.T) {
	half := pair(1, 2)
	wantCompared(t, nil, nil, 0)
	wantCompared(t, nil, wholes(0), -1)
	wantCompared(t, nil, wholes(-5), -1)
	wantCompared(t, nil, parts(impl.Rat{}), -1)
	wantCompared(t, wholes(1), wholes(1), 0)
	wantCompared(t, wholes(1), wholes(2), -1)
	wantCompared(t, wholes(-1), wholes(1), -1)
	wantCompared(t, wholes(-100), wholes(1), -1)
	wantCompared(t, wholes(-2), wholes(-1), -1)
	wantCompared(t, parts(pair(1, 3)), parts(half), -1)
	wantCompared(t, parts(pair(-1, 2)), parts(pair(-1, 3)), -1)
	wantCompared(t, parts(pair(greatestPart-2, greatestPart-1)), parts(pair(greatestPart-1, greatestPart)), -1)
	wantCompared(t, wholes(-greatestPart), wholes(greatestPart), -1)
	wantCompared(t, wholes(2, 1), wholes(2, 1), 0)
	wantCompared(t, wholes(2, 1), wholes(2, 2), -1)
	wantCompared(t, wholes(2, 9), wholes(3, -9), -1)
	wantCompared(t, wholes(2, 1), wholes(2, 1, -7), -1)
	wantCompared(t, wholes(2), wholes(2, 1, 0), -1)
	wantCompared(t, wholes(2, 1, 0), wholes(3), -1)
	wantCompared(t, wholes(1), wholes(0, 9, 9), 1)
	wantCompared(t, wholes(2, 2, 2, -2, -2, -2), wholes(5, 1, 0, 0, -1, -5), -1)
	wantCompared(t, wholes(1, 2, 3), wholes(1, 2, 3, 0), -1)
}

// TestCompareExcessesInEachPlace has lists that differ in one place, whatever
// follows, and prefixes.
func TestCompareExcessesInEachPlace(t *testing.T) {
	for length := 1; length <= 30; length++ {
		list := variedVectors(smallRats(), length)[length]
		wantCompared(t, list, slices.Clone(list), 0)
		for place := range length {
			wantCompared(t, list[:place], list, -1)
			for _, step := range []impl.Rat{pair(1, 1), pair(1, 1000), pair(100, 1)} {
				greater := slices.Clone(list)
				greater[place], _ = impl.AddRat(list[place], step)
				wantCompared(t, list, greater, -1)
				wantCompared(t, list[:place], greater, -1)
				wantCompared(t, list, greater[:place+1], -1)
				wantCompared(t, list[:place+1], greater, -1)
				for after := place + 1; after < length; after++ {
					greater[after] = pair(-greatestPart, 1)
				}
				wantCompared(t, list, greater, -1)
			}
		}
	}
}

// TestCompareExcessesOfBadFractions has one in a place: whatever it is compared
// with, the next place decides.
func TestCompareExcessesOfBadFractions(t *testing.T) {
	others := []impl.Rat{pair(0, 1), pair(-3, 2), pair(greatestPart, 1), {}, pair(2, 4), pair(math.MinInt, math.MaxInt)}
	for _, bad := range badRats() {
		for _, other := range others {
			wantCompared(t, parts(bad), parts(other), 0)
			wantCompared(t, parts(bad), parts(other, pair(-1, 1)), -1)
			wantCompared(t, parts(bad), parts(other, bad), -1)
			wantCompared(t, parts(bad, pair(1, 1)), parts(other, pair(2, 1)), -1)
			wantCompared(t, parts(pair(1, 1), bad), parts(pair(2, 1), other), -1)
			wantCompared(t, parts(pair(1, 1), bad), parts(pair(1, 1), other), 0)
			wantCompared(t, parts(pair(1, 1), bad, pair(2, 1)), parts(pair(1, 1), other, pair(3, 1)), -1)
			wantCompared(t, nil, parts(bad, other), -1)
		}
	}
}

// definedComparison is the definition of CompareExcesses.
func definedComparison(a, b []impl.Rat) int {
	for i := range min(len(a), len(b)) {
		if order := definedOrder(a[i], b[i]); order != 0 {
			return order
		}
	}
	return min(1, max(-1, len(a)-len(b)))
}

func TestCompareExcessesAgainstItsDefinition(t *testing.T) {
	var lists [][]impl.Rat
	for length := range 3 {
		lists = append(lists, vectorsOver(strangeRats(), length)...)
	}
	lists = append(lists, vectorsOver(parts(pair(0, 1), pair(-1, 2), impl.Rat{}), 3)...)
	for i, a := range lists {
		for _, b := range lists[:i+1] {
			wantCompared(t, a, b, definedComparison(a, b))
		}
	}
}

func TestVeryLongListsOfExcesses(t *testing.T) {
	const length = 100000
	a, b := slices.Repeat(wholes(-3), length), slices.Repeat(wholes(-3), length)
	wantCompared(t, a, b, 0)
	wantCompared(t, a[1:], b, -1)
	b[length-1] = pair(-2, 1)
	wantCompared(t, a, b, -1)
	wantCompared(t, a[:length-1], b, -1)
	wantShare(t, a, 31, ratedAt(-15, 1))
	wantNoPayoff(t, flatGame(5, -15), a)
	wantExcess(t, flatGame(5, -15), a, 31, ratedAt(0, 1))
}

// TestPayoffsOfAllSmallGames has all games of two players, and some of three,
// over a few values, with several vectors each.
func TestPayoffsOfAllSmallGames(t *testing.T) {
	halves := parts(pair(-1, 1), pair(-1, 2), pair(0, 1), pair(1, 2), pair(1, 1), pair(2, 1))
	tally := map[string]int{}
	for _, g := range slices.Concat(gamesOver(1, -1, 0, 1), gamesOver(2, -1, 0, 1, 2), gamesOver(3, 0, 1)) {
		for _, x := range vectorsOver(halves, g.Players-1) {
			wantJudged(t, g, append(slices.Clone(x), pair(1, 2))).count(tally)
			wantJudged(t, g, completed(x, impl.GrandValue(g))).count(tally)
		}
	}
	wantTallies(t, tally, 40, "no payoff", "in the core", "a better worst excess", "an imputation", "no imputation")
}

// count notes what kind of payoff was examined.
func (v verdict) count(tally map[string]int) {
	for kind, isSo := range map[string]bool{
		"no payoff":             !v.isPayoff,
		"does not fit":          v.isPayoff && !v.fits,
		"imputation, no fit":    v.isImputation && !v.fits,
		"in the core":           v.inCore,
		"a better worst excess": v.inCore && v.worst.ok && v.worst.excess.Num < 0,
		"an imputation":         v.isImputation && v.fits && !v.inCore,
		"no imputation":         v.fits && !v.isImputation,
		"several worst":         len(v.worst.coalitions) > 1,
	} {
		if isSo {
			tally[kind]++
		}
	}
}

func wantTallies(t *testing.T, tally map[string]int, least int, kinds ...string) {
	t.Helper()
	for _, kind := range kinds {
		if tally[kind] < least {
			t.Errorf("%s: %d cases", kind, tally[kind])
		}
	}
}

// marginals is what each player adds to those before, in an order.
func marginals(g impl.Game, order []int) []int {
	x, before := make([]int, g.Players), 0
	for _, k := range order {
		x[k] = g.Values[before+1<<k] - g.Values[before]
		before += 1 << k
	}
	return x
}

// fairPayoff draws a payoff between two marginal vectors.
func (d drawn) fairPayoff(g impl.Game) []impl.Rat {
	a, b := marginals(g, d.Perm(g.Players)), marginals(g, d.Perm(g.Players))
	den := d.between(1, 6)
	weight := d.between(0, den)
	var x []impl.Rat
	for k := range a {
		r, _ := impl.RatOf(a[k]*weight+b[k]*(den-weight), den)
		x = append(x, r)
	}
	return x
}

// shifted moves a little from one player to another.
func (d drawn) shifted(x []impl.Rat) []impl.Rat {
	x = slices.Clone(x)
	step := pair(1, d.between(1, 9))
	i, j := d.Intn(len(x)), d.Intn(len(x))
	x[i], _ = impl.AddRat(x[i], step)
	x[j], _ = impl.SubRat(x[j], step)
	return x
}

// freePayoff draws all elements but the last one.
func (d drawn) freePayoff(g impl.Game, most int) []impl.Rat {
	var x []impl.Rat
	for range g.Players - 1 {
		r, _ := impl.RatOf(d.between(-most, most), d.between(1, 6))
		x = append(x, r)
	}
	return completed(x, impl.GrandValue(g))
}

// extremePayoff draws elements near the limits of a fraction.
func (d drawn) extremePayoff(g impl.Game) []impl.Rat {
	near := greatestPart - d.between(0, 3)
	list := parts(pair(near, 1), pair(-near, 1), pair(1, 1), pair(-1, 1), pair(0, 1))
	if d.Intn(2) == 0 {
		list = parts(pair(1, near), pair(-1, near), pair(2, 1), pair(0, 1), pair(-1, 1))
	}
	var x []impl.Rat
	for range g.Players - 1 {
		x = append(x, list[d.Intn(len(list))])
	}
	return completed(x, impl.GrandValue(g))
}

// drawnPayoffs draws payoffs of all kinds, and vectors that are none.
func (d drawn) drawnPayoffs(g impl.Game) [][]impl.Rat {
	fair := d.fairPayoff(g)
	return [][]impl.Rat{
		fair, d.shifted(fair), d.shifted(d.shifted(fair)), d.freePayoff(g, 4), d.freePayoff(g, 40),
		d.extremePayoff(g), d.extremePayoff(g), d.strangeVector(g.Players),
	}
}

// drawnKinds draws one game of each kind.
func (d drawn) drawnKinds(n int) []impl.Game {
	return []impl.Game{
		d.convexGame(n, 4), d.nearGame(n, 3), d.symmetricGame(n), d.sparseGame(n, 1), d.drawnGame(n, 3),
		d.drawnGame(n, greatestValue), d.poorGame(n, 2),
	}
}

// poorGame draws a game in which nobody earns anything, except all players.
func (d drawn) poorGame(players, most int) impl.Game {
	g := game(players, d.ints(1<<players-1, -most, 0)...)
	return valued(g, 1<<players-1, d.between(0, most))
}

func TestDrawnPayoffs(t *testing.T) {
	d, tally := newDrawn(), map[string]int{}
	for n := 1; n <= impl.MaxPlayers; n++ {
		for range 40 {
			for _, g := range d.drawnKinds(n) {
				for _, x := range d.drawnPayoffs(g) {
					wantJudged(t, g, x).count(tally)
				}
			}
		}
	}
	wantTallies(t, tally, 100, "no payoff", "does not fit", "in the core", "a better worst excess",
		"an imputation", "no imputation", "several worst")
	wantTallies(t, tally, 20, "imputation, no fit")
}

// TestTheCoreByTheWorstExcess examines what follows from the definitions, without
// them: a payoff is in the core exactly if its worst excess, if there is one, is
// not greater than 0, and then it is an imputation.
func TestTheCoreByTheWorstExcess(t *testing.T) {
	d, inside, outside := newDrawn(), 0, 0
	for n := 1; n <= impl.MaxPlayers; n++ {
		for range 60 {
			for _, g := range d.drawnKinds(n) {
				for _, x := range d.drawnPayoffs(g) {
					excess, list, ok := impl.WorstExcess(g, x)
					want := impl.IsPayoff(g, x) && (n == 1 || ok && impl.CompareRat(excess, pair(0, 1)) <= 0)
					if impl.InCore(g, x) != want {
						t.Errorf("InCore(%v, %v) is not %t, but the worst excess is %v of %v", g, x, want, excess, list)
					}
					wantConsistent(t, g, x)
					if n > 1 && want {
						inside++
					} else if n > 1 && ok {
						outside++
					}
				}
			}
		}
	}
	if inside < 500 || outside < 500 {
		t.Errorf("%d payoffs are in the core, and %d are not", inside, outside)
	}
}

// wantConsistent compares the results of the functions with each other.
func wantConsistent(t *testing.T, g impl.Game, x []impl.Rat) {
	t.Helper()
	excess, list, ok := impl.WorstExcess(g, x)
	excesses := impl.ExcessVector(g, x)
	if ok != (len(excesses) > 0) || ok && (excesses[0] != excess || len(excesses) != 1<<g.Players-2) {
		t.Errorf("ExcessVector(%v, %v) = %v, but the worst excess is %v", g, x, excesses, excess)
	}
	for i, s := range list {
		if got := ratedBy(impl.ExcessOf(g, x, s)); got != (rated{excess, true}) || excesses[i] != excess {
			t.Errorf("the excess of %d is %v in %v with %v, but the worst is %v", s, got, g, x, excess)
		}
	}
	if len(list) < len(excesses) && excesses[len(list)] == excess || !slices.IsSortedFunc(excesses, func(a, b impl.Rat) int { return impl.CompareRat(b, a) }) {
		t.Errorf("WorstExcess(%v, %v) lists %v, but the excesses are %v", g, x, list, excesses)
	}
	if impl.InCore(g, x) && !impl.IsImputation(g, x) || impl.IsImputation(g, x) && !impl.IsPayoff(g, x) {
		t.Errorf("%v is in the core of %v, but no imputation, or no payoff", x, g)
	}
}

// TestMarginalVectorsOfConvexGames have a known place: they are in the core.
func TestMarginalVectorsOfConvexGames(t *testing.T) {
	d := newDrawn()
	for n := 1; n <= impl.MaxPlayers; n++ {
		for range 60 {
			g := d.convexGame(n, 5)
			x := d.fairPayoff(g)
			wantInCore(t, g, x, true)
			wantImputation(t, g, x, true)
			wantInCore(t, valued(g, 1<<n-1, g.Values[1<<n-1]+1), x, false)
		}
	}
}

// TestPayoffsInTheSameMemory passes one list, or parts of one, twice.
func TestPayoffsInTheSameMemory(t *testing.T) {
	x := wholes(5, 1, 0, 3)
	if impl.CompareExcesses(x, x) != 0 || impl.CompareExcesses(x[:2], x) != -1 || impl.CompareExcesses(x, x[1:]) != 1 {
		t.Error("CompareExcesses of parts")
	}
	g := game(3, 0, 0, 6, 0, 6, 6, 6)
	first := impl.ExcessVector(g, x[:3])
	_, list, _ := impl.WorstExcess(g, x[:3])
	scribble(first, pair(-88, 1))
	scribble(list, -88)
	wantExcesses(t, g, x[:3], wholes(5, 1, 0, 0, -1, -5)...)
	wantWorst(t, g, x[:3], worstAt(pair(5, 1), 6))
	if !slices.Equal(x, wholes(5, 1, 0, 3)) || !isSameGame(g, game(3, 0, 0, 6, 0, 6, 6, 6)) {
		t.Errorf("the arguments were modified to %v and %v", g, x)
	}
}

func TestPayoffsKeepNoState(t *testing.T) {
	g := game(3, 0, 0, 6, 0, 6, 6, 6)
	for range 3 {
		wantShare(t, wholes(1, 2, 4), 5, ratedAt(5, 1))
		wantShare(t, wholes(1, 2), 5, rated{})
		wantIsPayoff(t, g, wholes(2, 2, 2), true)
		wantNoPayoff(t, g, wholes(2, 2))
		wantWorst(t, g, wholes(2, 2, 2), worstAt(pair(2, 1), 3, 5, 6))
		wantWorst(t, g, wholes(5, 1, 0), worstAt(pair(5, 1), 6))
		wantExcesses(t, g, wholes(5, 1, 0), wholes(5, 1, 0, 0, -1, -5)...)
		wantInCore(t, game(2, 1, 2, 5), wholes(2, 3), true)
		wantInCore(t, game(2, 1, 4, 5), wholes(2, 3), false)
		wantImputation(t, game(2, 1, 2, 5), wholes(1, 4), true)
		wantCompared(t, wholes(2, 1), wholes(2, 1, 0), -1)
	}
}
