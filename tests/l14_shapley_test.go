package tests

import (
	"fmt"
	"math"
	"math/big"
	"slices"
	"sync"
	"testing"

	"loop.example/g00520/impl"
)

const greatestDividend = 100000

// division is the complete result of a function that divides what all players
// earn; the zero value is that of a call without shares.
type division struct {
	shares []impl.Rat
	ok     bool
}

func divisionBy(shares []impl.Rat, ok bool) division { return division{shares, ok} }

func dividedInto(shares ...impl.Rat) division { return division{shares, true} }

func isSameDivision(a, b division) bool { return a.ok == b.ok && slices.Equal(a.shares, b.shares) }

func divisionResults() results[division] {
	copied := func(x division) division { return division{slices.Clone(x.shares), x.ok} }
	change := func(t *testing.T, call string, x division) { scribble(x.shares, pair(-88, 1)) }
	return results[division]{copied, change, isSameDivision}
}

// wantOfPlayers checks a function that divides what all players earn, also with
// nil and empty slices in place of those without elements.
func wantOfPlayers(t *testing.T, call string, g impl.Game, function func(g impl.Game) ([]impl.Rat, bool), want division) {
	t.Helper()
	x, values := guardGame(g)
	got := divisionResults().callTwice(t, call, guardedLists{values}, func() division { return divisionBy(function(x)) })
	for _, absent := range []bool{true, false} {
		if other := divisionBy(function(hollowGame(g, absent))); !isSameDivision(other, want) {
			got = other
		}
	}
	if !isSameDivision(got, want) {
		t.Errorf("%s(%v) = %v; want %v", call, g, got, want)
	}
}

func wantShapley(t *testing.T, g impl.Game, want division) {
	t.Helper()
	wantOfPlayers(t, "ShapleyValue", g, impl.ShapleyValue, want)
}

// wantOfCoalitions checks a function that returns a list alone, with an element
// for each coalition. The memory of the results is changed to other.
func wantOfCoalitions[E comparable](t *testing.T, call string, g impl.Game, function func(g impl.Game) []E, other E, want []E) {
	t.Helper()
	x, values := guardGame(g)
	got := listResults(other).callTwice(t, call, guardedLists{values}, func() []E { return function(x) })
	for _, absent := range []bool{true, false} {
		if other := function(hollowGame(g, absent)); !slices.Equal(other, want) {
			got = other
		}
	}
	if !slices.Equal(got, want) {
		t.Errorf("%s(%v) = %v; want %v", call, g, got, want)
	}
}

func wantDividends(t *testing.T, g impl.Game, want ...int) {
	t.Helper()
	wantOfCoalitions(t, "DividendsOf", g, impl.DividendsOf, -88, want)
}

func wantPotential(t *testing.T, g impl.Game, want ...impl.Rat) {
	t.Helper()
	wantOfCoalitions(t, "PotentialOf", g, impl.PotentialOf, pair(-88, 1), want)
}

func wantOfDividends(t *testing.T, n int, list []int, want built) {
	t.Helper()
	call := fmt.Sprint("GameOfDividends", n, list)
	x := guard(list, 7)
	got := builtResults().callTwice(t, "GameOfDividends", guardedLists{x}, func() built {
		return builtBy(impl.GameOfDividends(n, x.given))
	})
	wantBuilt(t, call, got, want)
	for _, absent := range []bool{true, false} {
		wantBuilt(t, call, builtBy(impl.GameOfDividends(n, hollow(list, absent))), want)
	}
}

// arrivals has all orders in which a number of players can arrive.
var arrivals = sync.OnceValue(func() *[6][][]int {
	var list [6][][]int
	list[0] = [][]int{nil}
	for n := 1; n <= 5; n++ {
		for _, order := range list[n-1] {
			for place := range n {
				list[n] = append(list[n], slices.Insert(slices.Clone(order), place, n-1))
			}
		}
	}
	return &list
})

// definedShapley is the definition of ShapleyValue: it counts the orders one by
// one.
func definedShapley(g impl.Game) division {
	if !definedGame(g) {
		return division{}
	}
	sums, count := make([]int, g.Players), 0
	for _, order := range arrivals()[g.Players] {
		for k, added := range marginals(g, order) {
			sums[k] += added
		}
		count++
	}
	var shares []impl.Rat
	for _, sum := range sums {
		share, _ := reducedRat(big.NewInt(int64(sum)), big.NewInt(int64(count)))
		shares = append(shares, share)
	}
	return dividedInto(shares...)
}

// definedDividends is the definition of DividendsOf.
func definedDividends(g impl.Game) []int {
	if !definedGame(g) {
		return nil
	}
	list := []int{0}
	for s := 1; s < len(g.Values); s++ {
		dividend := g.Values[s]
		for part, other := range list {
			if isSubset(part, s) {
				dividend -= other
			}
		}
		list = append(list, dividend)
	}
	return list
}

// definedOfDividends is the definition of GameOfDividends.
func definedOfDividends(n int, list []int) built {
	if n < 1 || n > 5 || len(list) != 1<<n {
		return built{}
	}
	var values []int
	for s := range list {
		sum := 0
		for part, dividend := range list {
			if dividend < -greatestDividend || dividend > greatestDividend {
				return built{}
			}
			if isSubset(part, s) {
				sum += dividend
			}
		}
		values = append(values, sum)
	}
	return definedBuilt(n, values)
}

// definedPotential is the definition of PotentialOf.
func definedPotential(g impl.Game) []impl.Rat {
	if !definedGame(g) {
		return nil
	}
	list := wholes(0)
	for s := 1; s < len(g.Values); s++ {
		sum, fits, members := pair(g.Values[s], 1), true, 0
		for k := range g.Players {
			if !isIn(s, k) {
				continue
			}
			members++
			if sum, fits = wantedOperation("+", sum, list[s-1<<k]); !fits {
				return nil
			}
		}
		potential, fits := wantedOperation("/", sum, pair(members, 1))
		if !fits {
			return nil
		}
		list = append(list, potential)
	}
	return list
}

// wantDefinedShares compares the functions of a game with their definitions.
func wantDefinedShares(t *testing.T, g impl.Game) {
	t.Helper()
	wantShapley(t, g, definedShapley(g))
	wantDividends(t, g, definedDividends(g)...)
	wantPotential(t, g, definedPotential(g)...)
}

// sharing is what the functions say of a valid game.
type sharing struct {
	g          impl.Game
	shares     []impl.Rat
	dividends  []int
	potentials []impl.Rat
}

// want also checks the definitions, and that the dividends belong to the game.
func (c sharing) want(t *testing.T) {
	t.Helper()
	wantShapley(t, c.g, dividedInto(c.shares...))
	wantDividends(t, c.g, c.dividends...)
	wantPotential(t, c.g, c.potentials...)
	wantOfDividends(t, c.g.Players, c.dividends, built{c.g, true})
	if defined := definedShapley(c.g); !isSameDivision(defined, dividedInto(c.shares...)) {
		t.Errorf("the value of %v is defined as %v, not as %v", c.g, defined, c.shares)
	}
	if defined := definedDividends(c.g); !slices.Equal(defined, c.dividends) {
		t.Errorf("the dividends of %v are defined as %v, not as %v", c.g, defined, c.dividends)
	}
	if defined := definedPotential(c.g); !slices.Equal(defined, c.potentials) {
		t.Errorf("the potential of %v is defined as %v, not as %v", c.g, defined, c.potentials)
	}
	if defined := definedOfDividends(c.g.Players, c.dividends); !isSameBuilt(defined, built{c.g, true}) {
		t.Errorf("the game of %v is defined as %v, not as %v", c.dividends, defined, c.g)
	}
}

func TestShapleyKnownGames(t *testing.T) {
	zero, half, third, sixth := pair(0, 1), pair(1, 2), pair(1, 3), pair(1, 6)
	twoThirds := pair(2, 3)
	for _, c := range []sharing{
		{game(1, 7), wholes(7), []int{0, 7}, wholes(0, 7)},
		{game(1, 0), wholes(0), []int{0, 0}, wholes(0, 0)},
		{game(1, -500), wholes(-500), []int{0, -500}, wholes(0, -500)},
		{game(2, 1, 2, 5), wholes(2, 3), []int{0, 1, 2, 2}, wholes(0, 1, 2, 4)},
		{game(2, 0, 0, 1), parts(half, half), []int{0, 0, 0, 1}, parts(zero, zero, zero, half)},
		{game(2, 3, -4, -2), parts(pair(5, 2), pair(-9, 2)), []int{0, 3, -4, -1}, parts(zero, pair(3, 1), pair(-4, 1), pair(-3, 2))},
		{game(2, 500, 500, -500), wholes(-250, -250), []int{0, 500, 500, -1500}, wholes(0, 500, 500, 250)},
		// One glove for the left hand and two for the right one.
		{game(3, 0, 0, 6, 0, 6, 0, 6), wholes(4, 1, 1), []int{0, 0, 0, 6, 0, 6, 0, -6}, wholes(0, 0, 0, 3, 0, 3, 0, 4)},
		{game(3, 0, 0, 6, 0, 6, 6, 6), wholes(2, 2, 2), []int{0, 0, 0, 6, 0, 6, 6, -12}, wholes(0, 0, 0, 3, 0, 3, 3, 5)},
		{game(3, 0, 0, 0, 0, 0, 0, 1), parts(third, third, third), []int{0, 0, 0, 0, 0, 0, 0, 1},
			parts(zero, zero, zero, zero, zero, zero, zero, third)},
		// A runway costs as much as the longest one that a member needs.
		{game(3, -1, -2, -2, -3, -3, -3, -3), parts(pair(-1, 3), pair(-5, 6), pair(-11, 6)), []int{0, -1, -2, 1, -3, 1, 2, -1},
			parts(zero, pair(-1, 1), pair(-2, 1), pair(-5, 2), pair(-3, 1), pair(-7, 2), pair(-4, 1), pair(-13, 3))},
		// Player 0 wins with anybody, and the others without player 0.
		{game(4, 0, 0, 1, 0, 1, 0, 1, 0, 1, 0, 1, 0, 1, 1, 1), parts(half, sixth, sixth, sixth),
			[]int{0, 0, 0, 1, 0, 1, 0, -1, 0, 1, 0, -1, 0, -1, 1, 0},
			parts(zero, zero, zero, half, zero, half, zero, twoThirds, zero, half, zero, twoThirds, zero, twoThirds, third, pair(5, 6))},
	} {
		c.want(t)
	}
}

func TestShapleyOfOnePlayer(t *testing.T) {
	for value := -greatestValue; value <= greatestValue; value++ {
		sharing{game(1, value), wholes(value), []int{0, value}, wholes(0, value)}.want(t)
	}
}

// TestShapleyOfTwoPlayers has games in which both players gain or lose the same.
func TestShapleyOfTwoPlayers(t *testing.T) {
	values := []int{-greatestValue, -499, -3, -2, 0, 1, 250, 499, greatestValue}
	for _, a := range values {
		for _, b := range values {
			for _, all := range values {
				first, _ := impl.RatOf(all+a-b, 2)
				second, _ := impl.RatOf(all+b-a, 2)
				together, _ := impl.RatOf(all+a+b, 2)
				potentials := append(wholes(0, a, b), together)
				sharing{game(2, a, b, all), parts(first, second), []int{0, a, b, all - a - b}, potentials}.want(t)
			}
		}
	}
}

func fraction(n, d int) impl.Rat {
	r, _ := reducedRat(big.NewInt(int64(n)), big.NewInt(int64(d)))
	return r
}

func factorial(n int) int {
	result := 1
	for i := 2; i <= n; i++ {
		result *= i
	}
	return result
}

func limitValues() []int { return []int{1, -1, 7, 499, -499, greatestValue, -greatestValue} }

// TestShapleyOfOneDividend has games in which a coalition earns something exactly
// if it contains a certain one.
func TestShapleyOfOneDividend(t *testing.T) {
	for n := 1; n <= impl.MaxPlayers; n++ {
		for s := 1; s < 1<<n; s++ {
			for _, value := range limitValues() {
				g := valuedBy(n, func(other int) int {
					if isSubset(s, other) {
						return value
					}
					return 0
				})
				c := sharing{g: g, dividends: with(make([]int, 1<<n), s, value)}
				share := fraction(value, len(coalitionTexts()[s]))
				for k := range n {
					c.shares = append(c.shares, given(isIn(s, k), share))
				}
				for other := range 1 << n {
					c.potentials = append(c.potentials, given(isSubset(s, other), share))
				}
				c.want(t)
			}
		}
	}
}

// given returns 0 where there is nothing to be given.
func given(isSo bool, r impl.Rat) impl.Rat {
	if isSo {
		return r
	}
	return pair(0, 1)
}

// TestShapleyOfOneValue has games in which one coalition alone earns something:
// it is entered by each of its members, and left by all others, in so many
// orders.
func TestShapleyOfOneValue(t *testing.T) {
	for n := 1; n <= impl.MaxPlayers; n++ {
		for s := 1; s < 1<<n; s++ {
			size := len(coalitionTexts()[s])
			for _, value := range limitValues() {
				c := sharing{g: valued(flatGame(n, 0), s, value)}
				for k := range n {
					if isIn(s, k) {
						c.shares = append(c.shares, fraction(value*factorial(size-1)*factorial(n-size), factorial(n)))
					} else {
						c.shares = append(c.shares, fraction(-value*factorial(size)*factorial(n-size-1), factorial(n)))
					}
				}
				for other := range 1 << n {
					dividend, potential := 0, pair(0, 1)
					if isSubset(s, other) {
						all := max(1, len(coalitionTexts()[other]))
						dividend = value * (1 - (all-size)%2*2)
						potential = fraction(value*factorial(size-1)*factorial(all-size), factorial(all))
					}
					c.dividends, c.potentials = append(c.dividends, dividend), append(c.potentials, potential)
				}
				c.want(t)
			}
		}
	}
}

// harmonic is 1 + 1/2 + ... + 1/n, times 60.
func harmonic(n int) int { return []int{0, 60, 90, 110, 125, 137}[n] }

func TestShapleyOfFlatGames(t *testing.T) {
	for n := 1; n <= impl.MaxPlayers; n++ {
		for _, value := range append(limitValues(), 0) {
			c := sharing{g: flatGame(n, value), shares: slices.Repeat(parts(fraction(value, n)), n)}
			for s := range 1 << n {
				size := impl.SizeOf(s)
				c.dividends = append(c.dividends, []int{0, value, -value, value, -value, value}[size])
				c.potentials = append(c.potentials, fraction(value*harmonic(size), 60))
			}
			c.want(t)
		}
	}
}

// TestShapleyOfGamesOfSizes has games in which the value depends on the size
// alone: all players get the same.
func TestShapleyOfGamesOfSizes(t *testing.T) {
	ofSizes := func(g impl.Game, share impl.Rat, dividends []int, potentials ...impl.Rat) {
		t.Helper()
		c := sharing{g: g, shares: slices.Repeat(parts(share), g.Players)}
		for s := range g.Values {
			c.dividends = append(c.dividends, dividends[impl.SizeOf(s)])
			c.potentials = append(c.potentials, potentials[impl.SizeOf(s)])
		}
		c.want(t)
	}
	ofSizes(sizeGame(4, 10, 40, 90, 160), pair(40, 1), []int{0, 10, 20, 0, 0}, wholes(0, 10, 30, 60, 100)...)
	ofSizes(sizeGame(5, 0, 0, 0, 0, 1), pair(1, 5), []int{0, 0, 0, 0, 0, 1}, append(wholes(0, 0, 0, 0, 0), pair(1, 5))...)
	ofSizes(sizeGame(5, -7, 0, 0, 0, 0), pair(0, 1), []int{0, -7, 14, -21, 28, -35}, wholes(0, -7, -7, -7, -7, -7)...)
	ofSizes(sizeGame(5, 1, 2, 3, 4, 5), pair(1, 1), []int{0, 1, 0, 0, 0, 0}, wholes(0, 1, 2, 3, 4, 5)...)
}

// TestShapleyOfAdditiveGames has games in which nobody gains by the others.
func TestShapleyOfAdditiveGames(t *testing.T) {
	d := newDrawn()
	for n := 1; n <= impl.MaxPlayers; n++ {
		for _, x := range [][]int{d.ints(n, -100, 100), d.ints(n, -3, 3), slices.Repeat([]int{100}, n), slices.Repeat([]int{-100}, n)} {
			c := sharing{g: fittedGame(x, 0), shares: wholes(x...), dividends: make([]int, 1<<n)}
			c.potentials = wholes(c.g.Values...)
			for k := range n {
				c.dividends[1<<k] = x[k]
			}
			c.want(t)
		}
	}
}

// oppositeGame has the greatest dividend of all players that there is, or the
// least one: the values of coalitions whose sizes differ by one have other signs.
func oppositeGame(n, value int) impl.Game {
	return valuedBy(n, func(s int) int { return value * (1 - (n-impl.SizeOf(s))%2*2) })
}

func TestDividendsBeyondMaxValue(t *testing.T) {
	wantDividends(t, game(2, -500, -500, 500), 0, -500, -500, 1500)
	wantDividends(t, game(2, 500, 500, 500), 0, 500, 500, -500)
	wantDividends(t, game(2, -1, 0, 500), 0, -1, 0, 501)
	wantDividends(t, game(2, 1, 0, -500), 0, 1, 0, -501)
	wantDividends(t, game(3, 500, 500, -500, 500, -500, -500, 500), 0, 500, 500, -1500, 500, -1500, -1500, 3500)
	for n := 1; n <= impl.MaxPlayers; n++ {
		for _, value := range []int{greatestValue, -greatestValue} {
			g := oppositeGame(n, value)
			dividends := impl.DividendsOf(g)
			if len(dividends) != 1<<n || dividends[0] != 0 || dividends[1<<n-1] != value*(1<<n-1) {
				t.Errorf("DividendsOf(%v) = %v", g, dividends)
			}
			wantDefinedShares(t, g)
			wantOfDividends(t, n, dividends, built{g, true})
		}
	}
}

// limitGame draws a game in which all values are at the limits, or 0.
func (d drawn) limitGame(n int) impl.Game {
	return valuedBy(n, func(int) int { return greatestValue * d.between(-1, 1) })
}

// gamesToShare draws games of all kinds.
func (d drawn) gamesToShare(n int) []impl.Game {
	games := append(d.drawnKinds(n), d.drawnKinds(n)...)
	return append(games, d.limitGame(n), d.limitGame(n), d.poorGame(n, greatestValue), d.drawnGame(n, 1))
}

func TestShapleyAgainstItsDefinition(t *testing.T) {
	d, tally := newDrawn(), map[string]int{}
	for n := 1; n <= impl.MaxPlayers; n++ {
		games := slices.Concat(d.variedGames(n), d.nearLimits(n))
		for range 20 {
			games = append(games, d.gamesToShare(n)...)
		}
		for _, g := range games {
			wantDefinedShares(t, g)
			countShares(g, tally)
		}
	}
	wantTallies(t, tally, 500, "an integer", "a fraction", "a share below 0", "a dividend below 0", "a potential that is a fraction")
	wantTallies(t, tally, 200, "a dividend beyond MaxValue", "a dividend below -MaxValue", "a share of 0")
}

// nearLimits are games with one value at a limit, or next to it, amid others.
func (d drawn) nearLimits(n int) []impl.Game {
	var games []impl.Game
	for s := 1; s < 1<<n; s++ {
		for _, value := range limitValues() {
			games = append(games, valued(d.drawnGame(n, 9), s, value))
		}
	}
	return games
}

// countShares notes what the definitions say of a game.
func countShares(g impl.Game, tally map[string]int) {
	note := func(kind string, isSo bool) {
		if isSo {
			tally[kind]++
		}
	}
	for _, r := range definedShapley(g).shares {
		note("an integer", r.Den == 1)
		note("a fraction", r.Den > 1)
		note("a share below 0", r.Num < 0)
		note("a share of 0", r.Num == 0)
	}
	for _, dividend := range definedDividends(g) {
		note("a dividend below 0", dividend < 0)
		note("a dividend beyond MaxValue", dividend > greatestValue)
		note("a dividend below -MaxValue", dividend < -greatestValue)
	}
	for _, r := range definedPotential(g) {
		note("a potential that is a fraction", r.Den > 1)
	}
}

func TestShapleyOfAllSmallGames(t *testing.T) {
	for _, g := range slices.Concat(gamesOver(1, -1, 0, 1), gamesOver(2, -3, -2, -1, 0, 1, 2, 3), gamesOver(3, 0, 1), gamesOver(3, -500, 500)) {
		wantDefinedShares(t, g)
		wantOfDividends(t, g.Players, definedDividends(g), built{g, true})
	}
}

// TestTheShapleyValueDividesWhatAllPlayersEarn examines promise 14 with the
// results of the functions alone.
func TestTheShapleyValueDividesWhatAllPlayersEarn(t *testing.T) {
	d := newDrawn()
	for n := 1; n <= impl.MaxPlayers; n++ {
		games := d.variedGames(n)
		for range 60 {
			games = append(games, d.gamesToShare(n)...)
		}
		for _, g := range games {
			x, ok := impl.ShapleyValue(g)
			sum := pair(0, 1)
			for _, r := range x {
				sum, _ = wantedOperation("+", sum, r)
			}
			if !ok || len(x) != n || !impl.AllValid(x) || sum != pair(g.Values[1<<n-1], 1) || !impl.IsPayoff(g, x) {
				t.Errorf("ShapleyValue(%v) = %v, %t, which adds up to %v", g, x, ok, sum)
			}
		}
	}
}

// TestTheShapleyValueIsAdditive does the same for the other half.
func TestTheShapleyValueIsAdditive(t *testing.T) {
	d, sums := newDrawn(), 0
	for n := 1; n <= impl.MaxPlayers; n++ {
		for range 40 {
			games := append(d.gamesToShare(n), d.drawnGame(n, 250), d.drawnGame(n, 250), flatGame(n, 250), flatGame(n, -250))
			for _, a := range games {
				b := games[d.Intn(len(games))]
				sum, ok := impl.AddGames(a, b)
				if !ok {
					continue
				}
				sums++
				wantSumOfShares(t, a, b, sum)
			}
		}
	}
	if sums < 1000 {
		t.Errorf("there are %d sums", sums)
	}
}

func wantSumOfShares(t *testing.T, a, b, sum impl.Game) {
	t.Helper()
	x, _ := impl.ShapleyValue(a)
	y, _ := impl.ShapleyValue(b)
	shares, fits := impl.AddScaled(x, pair(1, 1), y)
	wantShapley(t, sum, division{shares, fits})
	potentials, _ := impl.AddScaled(impl.PotentialOf(a), pair(1, 1), impl.PotentialOf(b))
	wantPotential(t, sum, potentials...)
	dividends, others := impl.DividendsOf(a), impl.DividendsOf(b)
	for s, dividend := range others {
		dividends[s] += dividend
	}
	wantDividends(t, sum, dividends...)
}

// TestSharesOfMultiples examines ScaleGame: what it adds to the players is theirs
// alone.
func TestSharesOfMultiples(t *testing.T) {
	d := newDrawn()
	for n := 1; n <= impl.MaxPlayers; n++ {
		for range 100 {
			g, k, list := d.drawnGame(n, 40), d.between(-6, 6), d.ints(n, -40, 40)
			scaled, ok := impl.ScaleGame(g, k, list)
			x, _ := impl.ShapleyValue(g)
			shares, fits := impl.AddScaled(wholes(list...), pair(k, 1), x)
			wantShapley(t, scaled, division{shares, ok && fits})
		}
	}
}

// TestSharesOfConvexGames have a known place: they are in the core.
func TestSharesOfConvexGames(t *testing.T) {
	d := newDrawn()
	for n := 1; n <= impl.MaxPlayers; n++ {
		for range 100 {
			g := d.convexGame(n, 9)
			x, ok := impl.ShapleyValue(g)
			if !ok || !impl.InCore(g, x) || !impl.IsImputation(g, x) {
				t.Errorf("ShapleyValue(%v) = %v, %t", g, x, ok)
			}
		}
	}
}

// TestSharesOfNullAndSymmetricPlayers examines what follows from the definition.
func TestSharesOfNullAndSymmetricPlayers(t *testing.T) {
	d, none, same := newDrawn(), 0, 0
	for n := 2; n <= impl.MaxPlayers; n++ {
		for range 100 {
			for _, g := range append(d.drawnKinds(n), d.sparseGame(n, 2), d.withoutGain(n)) {
				x, _ := impl.ShapleyValue(g)
				for _, k := range impl.NullPlayers(g) {
					none++
					if x[k] != pair(0, 1) {
						t.Errorf("ShapleyValue(%v) = %v, but %d is a null player", g, x, k)
					}
				}
				for i := range n {
					for j := range i {
						if !impl.AreSymmetric(g, i, j) {
							continue
						}
						same++
						if x[i] != x[j] {
							t.Errorf("ShapleyValue(%v) = %v, but %d and %d are symmetric", g, x, i, j)
						}
					}
				}
			}
		}
	}
	if none < 300 || same < 300 {
		t.Errorf("there are %d null players, and %d pairs of symmetric ones", none, same)
	}
}

// withoutGain draws a game in which one player changes nothing.
func (d drawn) withoutGain(n int) impl.Game {
	g, k := d.drawnGame(n, 50), d.Intn(n)
	g.Values[1<<k] = 0
	for s := range g.Values {
		if isIn(s, k) {
			g.Values[s] = g.Values[s-1<<k]
		}
	}
	return g
}

// renumbered gives player k the number order[k].
func renumbered(g impl.Game, order []int) impl.Game {
	other := copyGame(g)
	for s, value := range g.Values {
		to := 0
		for k, place := range order {
			if isIn(s, k) {
				to += 1 << place
			}
		}
		other.Values[to] = value
	}
	return other
}

// TestSharesOfRenumberedPlayers has every player in every place.
func TestSharesOfRenumberedPlayers(t *testing.T) {
	d := newDrawn()
	for n := 1; n <= impl.MaxPlayers; n++ {
		for _, g := range []impl.Game{plainGame(n), d.drawnGame(n, 60), d.limitGame(n)} {
			x, _ := impl.ShapleyValue(g)
			for _, order := range arrivals()[n] {
				shares := make([]impl.Rat, n)
				for k, place := range order {
					shares[place] = x[k]
				}
				wantShapley(t, renumbered(g, order), dividedInto(shares...))
			}
		}
	}
}

// TestDividendsAddUpToTheValues examines what follows from the definition.
func TestDividendsAddUpToTheValues(t *testing.T) {
	d := newDrawn()
	for n := 1; n <= impl.MaxPlayers; n++ {
		for range 30 {
			for _, g := range d.gamesToShare(n) {
				dividends := impl.DividendsOf(g)
				for s, value := range g.Values {
					sum := 0
					for part, dividend := range dividends {
						if impl.IsSubset(part, s) {
							sum += dividend
						}
					}
					if sum != value {
						t.Errorf("DividendsOf(%v) = %v, which add up to %d at %d", g, dividends, sum, s)
					}
				}
			}
		}
	}
}

// TestDividendsOfPartsOfGames examines Restrict: the dividends of a coalition do
// not depend on anybody else.
func TestDividendsOfPartsOfGames(t *testing.T) {
	d := newDrawn()
	for n := 1; n <= impl.MaxPlayers; n++ {
		for _, g := range []impl.Game{plainGame(n), d.drawnGame(n, 60), d.limitGame(n)} {
			dividends, potentials := impl.DividendsOf(g), impl.PotentialOf(g)
			for s := 1; s < 1<<n; s++ {
				part, ok := impl.Restrict(g, s)
				if !ok {
					t.Fatalf("Restrict(%v, %d)", g, s)
				}
				var dividendsOfPart []int
				var potentialsOfPart []impl.Rat
				for other := range part.Values {
					old := oldCoalition(s, other)
					dividendsOfPart = append(dividendsOfPart, dividends[old])
					potentialsOfPart = append(potentialsOfPart, potentials[old])
				}
				wantDividends(t, part, dividendsOfPart...)
				wantPotential(t, part, potentialsOfPart...)
			}
		}
	}
}

// TestPotentialsAndShares has all coalitions in place of all players: their
// potential minus that of those without one of them is the share of this player
// in the game of the coalition.
func TestPotentialsAndShares(t *testing.T) {
	d := newDrawn()
	for n := 1; n <= impl.MaxPlayers; n++ {
		for range 6 {
			for _, g := range d.gamesToShare(n) {
				potentials := impl.PotentialOf(g)
				for s := 1; s < 1<<n; s++ {
					part, _ := impl.Restrict(g, s)
					var shares []impl.Rat
					for _, k := range impl.MembersOf(s) {
						share, _ := impl.SubRat(potentials[s], potentials[s-1<<k])
						shares = append(shares, share)
					}
					wantShapley(t, part, dividedInto(shares...))
				}
			}
		}
	}
}

// TestPotentialsByDividends is another way to the potential: every coalition
// contributes its dividend, divided by its size.
func TestPotentialsByDividends(t *testing.T) {
	d := newDrawn()
	for n := 1; n <= impl.MaxPlayers; n++ {
		for range 20 {
			for _, g := range d.gamesToShare(n) {
				potentials, dividends := []impl.Rat{}, definedDividends(g)
				for s := range g.Values {
					sixtieths := 0
					for part, dividend := range dividends {
						if part > 0 && isSubset(part, s) {
							sixtieths += dividend * (60 / len(coalitionTexts()[part]))
						}
					}
					potentials = append(potentials, fraction(sixtieths, 60))
				}
				wantPotential(t, g, potentials...)
			}
		}
	}
}

// TestAllPotentialsFit shows that there is no valid game without a potential: a
// value counts nowhere less than 0, so that no potential and no sum on the way is
// farther from 0 than in the flat games at the limits, where they are small, in
// every order of the additions; and 60 times a potential is an integer.
func TestAllPotentialsFit(t *testing.T) {
	d := newDrawn()
	for n := 1; n <= impl.MaxPlayers; n++ {
		for s := 1; s < 1<<n; s++ {
			for _, r := range impl.PotentialOf(valued(flatGame(n, 0), s, 1)) {
				if r.Num < 0 || 60%r.Den != 0 {
					t.Errorf("a value of 1 of coalition %d has the potential %v", s, r)
				}
			}
		}
		games := []impl.Game{flatGame(n, greatestValue), flatGame(n, -greatestValue), oppositeGame(n, greatestValue), d.limitGame(n)}
		for _, g := range games {
			potentials := impl.PotentialOf(g)
			for s := 1; s < 1<<n; s++ {
				wantEveryOrder(t, g, s, potentials)
			}
		}
	}
}

// wantEveryOrder adds the potentials of the coalitions that lack a player of s in
// all orders.
func wantEveryOrder(t *testing.T, g impl.Game, s int, potentials []impl.Rat) {
	t.Helper()
	members := impl.MembersOf(s)
	for _, order := range arrivals()[len(members)] {
		sum, fits := pair(g.Values[s], 1), true
		for _, place := range order {
			if sum, fits = wantedOperation("+", sum, potentials[s-1<<members[place]]); !fits || 60%sum.Den != 0 || impl.FloorRat(sum) > 6000 || impl.FloorRat(sum) < -6000 {
				t.Errorf("the sum for coalition %d of %v in the order %v is %v", s, g, order, sum)
			}
		}
		if quotient, _ := wantedOperation("/", sum, pair(len(members), 1)); quotient != potentials[s] {
			t.Errorf("the potential of %d in %v is %v, but %v in the order %v", s, g, potentials[s], quotient, order)
		}
	}
}

func TestSharesOfSpoiledGames(t *testing.T) {
	for n := 1; n <= impl.MaxPlayers; n++ {
		for _, g := range []impl.Game{plainGame(n), flatGame(n, 0), flatGame(n, greatestValue)} {
			wantDefinedShares(t, g)
			for _, bad := range append(spoiledGames(g), impl.Game{}, impl.Game{Players: n}, impl.Game{Values: g.Values}) {
				wantShapley(t, bad, division{})
				wantDividends(t, bad)
				wantPotential(t, bad)
			}
		}
	}
}

func TestSharesOfNobodyAndOfMany(t *testing.T) {
	for _, players := range []int{math.MinInt, -2, -1, 0, 6, 7, 16, 63, 64, math.MaxInt, 1<<32 + 2} {
		for _, length := range []int{0, 1, 2, 4, 32, 64, 128, 1 << 16} {
			g := impl.Game{Players: players, Values: make([]int, length)}
			wantShapley(t, g, division{})
			wantDividends(t, g)
			wantPotential(t, g)
			wantOfDividends(t, players, g.Values, built{})
		}
	}
}

func TestGameOfDividendsKnownGames(t *testing.T) {
	for _, c := range []struct {
		list []int
		want impl.Game
	}{
		{[]int{0, 0}, game(1, 0)},
		{[]int{0, -3}, game(1, -3)},
		{[]int{0, 1, 2, 2}, game(2, 1, 2, 5)},
		{[]int{0, 500, 500, -1500}, game(2, 500, 500, -500)},
		{[]int{0, 1, 20, 0, 300, 0, 0, 0}, game(3, 1, 20, 21, 300, 301, 320, 321)},
		{[]int{0, 1, 2, 4, 8, 16, 32, 64}, game(3, 1, 2, 7, 8, 25, 42, 127)},
		{[]int{0, 0, 0, 6, 0, 6, 0, -6}, game(3, 0, 0, 6, 0, 6, 0, 6)},
		{[]int{0, 1, 1, 1, 1, 1, 1, 1, 1, 1, 1, 1, 1, 1, 1, 1}, game(4, 1, 1, 3, 1, 3, 3, 7, 1, 3, 3, 7, 3, 7, 7, 15)},
		{append(make([]int, 31), -500), valued(flatGame(5, 0), 31, -500)},
	} {
		wantOfDividends(t, c.want.Players, c.list, built{c.want, true})
		for n := -1; n <= 7; n++ {
			if n != c.want.Players {
				wantOfDividends(t, n, c.list, built{})
			}
		}
	}
	// Every coalition contains so many others.
	ones := with(slices.Repeat([]int{1}, 32), 0, 0)
	wantOfDividends(t, 5, ones, built{valuedBy(5, func(s int) int { return 1<<impl.SizeOf(s) - 1 }), true})
}

// TestGameOfDividendsSizes examines all numbers of players with lists of every
// length, and those too short or too long by one.
func TestGameOfDividendsSizes(t *testing.T) {
	for _, n := range append(otherPlayers(3), 3) {
		for length := range 131 {
			want := built{}
			if n >= 1 && n <= impl.MaxPlayers && length == 1<<n {
				want = built{flatGame(n, 0), true}
			}
			wantOfDividends(t, n, make([]int, length), want)
		}
	}
	for n := 1; n <= impl.MaxPlayers; n++ {
		list := definedDividends(plainGame(n))
		wantOfDividends(t, n, list, built{plainGame(n), true})
		wantOfDividends(t, n, list[:len(list)-1], built{})
		wantOfDividends(t, n, list[1:], built{})
		wantOfDividends(t, n, list[:0], built{})
		wantOfDividends(t, n, append(slices.Clone(list), 0), built{})
		wantOfDividends(t, n, append(slices.Clone(list), 1), built{})
		wantOfDividends(t, n, append([]int{0}, list...), built{})
		wantOfDividends(t, n, slices.Concat(list, list), built{})
		for _, other := range otherPlayers(n) {
			wantOfDividends(t, other, list, built{})
		}
	}
	wantOfDividends(t, 5, make([]int, 100000), built{})
	wantOfDividends(t, 0, []int{0}, built{})
	wantOfDividends(t, 0, nil, built{})
}

// TestGameOfDividendsLimitsOfItsElements has no valid game: a dividend at the
// limit is far greater than any of a valid game, whatever the others are.
func TestGameOfDividendsLimitsOfItsElements(t *testing.T) {
	most := greatestDividend
	elements := append(beyondValues(), most-1, most, most+1, 1-most, -most, -most-1, 15501, -15501)
	for n := 1; n <= impl.MaxPlayers; n++ {
		plain, last := definedDividends(plainGame(n)), 1<<n-1
		for s := range 1 << n {
			for _, element := range elements {
				list := with(make([]int, 1<<n), s, element)
				wantOfDividends(t, n, list, built{})
				if s < last {
					// The sum for all players is 0.
					wantOfDividends(t, n, with(list, last, -element), built{})
				}
			}
			for _, element := range append(elements[len(beyondValues()):], math.MinInt) {
				wantOfDividends(t, n, with(plain, s, element), built{})
			}
		}
	}
}

// TestGameOfDividendsThatWrapAround has sums that would be values if they wrapped
// around.
func TestGameOfDividendsThatWrapAround(t *testing.T) {
	wantOfDividends(t, 1, []int{math.MinInt, math.MinInt}, built{})
	wantOfDividends(t, 1, []int{0, math.MinInt}, built{})
	wantOfDividends(t, 2, []int{0, math.MinInt, math.MinInt, 0}, built{})
	wantOfDividends(t, 2, []int{0, math.MaxInt, 1, math.MinInt}, built{})
	wantOfDividends(t, 2, []int{0, 1 << 62, 1 << 62, math.MinInt}, built{})
	wantOfDividends(t, 2, []int{0, 1 << 32, -1 << 32, 5}, built{})
	wantOfDividends(t, 2, []int{0, 1, 2, 1<<32 + 2}, built{})
	wantOfDividends(t, 5, slices.Repeat([]int{math.MinInt}, 32), built{})
	wantOfDividends(t, 5, with(slices.Repeat([]int{math.MinInt}, 32), 0, 0), built{})
	wantOfDividends(t, 5, slices.Repeat([]int{1 << 59}, 32), built{})
}

// TestGameOfDividendsOfTheEmptyCoalition has a first element that is not 0, also
// where the other sums are those of a valid game.
func TestGameOfDividendsOfTheEmptyCoalition(t *testing.T) {
	for n := 1; n <= impl.MaxPlayers; n++ {
		for _, g := range []impl.Game{flatGame(n, 0), plainGame(n), flatGame(n, greatestValue)} {
			plain := definedDividends(g)
			wantOfDividends(t, n, plain, built{g, true})
			for _, first := range append(limitValues(), greatestDividend, -greatestDividend, greatestDividend+1, math.MinInt, math.MaxInt) {
				wantOfDividends(t, n, with(plain, 0, first), built{})
				list := with(plain, 0, first)
				for s := 1; s < 1<<n; s++ {
					list[s] += first * (1 - impl.SizeOf(s)%2*2)
				}
				wantOfDividends(t, n, list, built{})
			}
		}
	}
}

// TestGameOfDividendsAtTheLimits has sums at the limit of a value for each
// coalition in turn, and beyond it by the dividend of the coalition itself, or of
// any of its subsets.
func TestGameOfDividendsAtTheLimits(t *testing.T) {
	d := newDrawn()
	for n := 1; n <= impl.MaxPlayers; n++ {
		for s := 1; s < 1<<n; s++ {
			for _, sign := range []int{1, -1} {
				g := valued(d.drawnGame(n, 9), s, sign*greatestValue)
				list := definedDividends(g)
				wantOfDividends(t, n, list, built{g, true})
				for part := 1; part <= s; part++ {
					if !isSubset(part, s) {
						continue
					}
					wantOfDividends(t, n, with(list, part, list[part]+sign), built{})
					less := definedOfDividends(n, with(list, part, list[part]-sign))
					if !less.ok || less.game.Values[s] != sign*(greatestValue-1) {
						t.Errorf("the value of %d is defined as %v", s, less)
					}
					wantOfDividends(t, n, with(list, part, list[part]-sign), less)
				}
			}
		}
	}
}

func TestGameOfDividendsOfAllSmallLists(t *testing.T) {
	elements := []int{-1001, -501, -500, -1, 0, 1, 500, 501, 1000}
	games := 0
	for _, a := range elements {
		for _, b := range elements {
			wantOfDividends(t, 1, []int{a, b}, definedOfDividends(1, []int{a, b}))
			for _, c := range elements {
				for _, e := range elements {
					want := definedOfDividends(2, []int{a, b, c, e})
					wantOfDividends(t, 2, []int{a, b, c, e}, want)
					if want.ok {
						games++
					}
				}
			}
		}
	}
	if games < 100 {
		t.Errorf("there are %d games", games)
	}
}

func TestGameOfDividendsAgainstItsDefinition(t *testing.T) {
	d, games, others := newDrawn(), 0, 0
	for n := 1; n <= impl.MaxPlayers; n++ {
		for _, most := range []int{1, 5, 20, 80, 600} {
			for range 80 {
				list := append([]int{0}, d.ints(1<<n-1, -most, most)...)
				if d.Intn(8) == 0 {
					list[0] = d.between(-1, 1)
				}
				want := definedOfDividends(n, list)
				wantOfDividends(t, n, list, want)
				if want.ok {
					games++
					wantDividends(t, want.game, list...)
				} else {
					others++
				}
			}
		}
	}
	if games < 300 || others < 300 {
		t.Errorf("there are %d games, and %d others", games, others)
	}
}

// TestGameOfDividendsUndoesDividendsOf has all dividends of valid games within
// the limit.
func TestGameOfDividendsUndoesDividendsOf(t *testing.T) {
	d := newDrawn()
	for n := 1; n <= impl.MaxPlayers; n++ {
		games := append(d.variedGames(n), oppositeGame(n, greatestValue), oppositeGame(n, -greatestValue))
		for range 30 {
			games = append(games, d.gamesToShare(n)...)
		}
		for _, g := range games {
			wantOfDividends(t, n, impl.DividendsOf(g), built{g, true})
		}
	}
}

// TestSharesInTheSameMemory passes games and lists whose slices overlap, and the
// result of one function to another.
func TestSharesInTheSameMemory(t *testing.T) {
	room := []int{0, 1, 0, 1, 0, 5, 6, 7}
	kept := slices.Clone(room)
	a, b := impl.Game{Players: 2, Values: room[:4]}, impl.Game{Players: 2, Values: room[2:6]}
	for range 2 {
		for _, g := range []impl.Game{a, b, {Players: 3, Values: room}} {
			shares, ok := impl.ShapleyValue(g)
			dividends, potentials := impl.DividendsOf(g), impl.PotentialOf(g)
			same, isGame := impl.GameOfDividends(g.Players, dividends)
			if want := definedShapley(g); !isSameDivision(want, division{shares, ok}) || !slices.Equal(potentials, definedPotential(g)) {
				t.Errorf("%v is divided into %v, with the potential %v", g, shares, potentials)
			}
			if !isGame || !isSameGame(same, g) {
				t.Errorf("GameOfDividends(%v) = %v, %t", dividends, same, isGame)
			}
			scribble(shares, pair(-88, 1))
			scribble(potentials, pair(-88, 1))
			scribble(dividends, -88)
			if !isSameGame(same, g) || !slices.Equal(room, kept) {
				t.Errorf("%v was modified to %v, or %v shares memory with the dividends", kept, room, same)
			}
			scribble(same.Values, -88)
		}
		first, _ := impl.GameOfDividends(1, room[:2])
		second, _ := impl.GameOfDividends(2, room[:4])
		scribble(first.Values, -88)
		if !slices.Equal(room, kept) || !isSameGame(second, game(2, 1, 0, 2)) {
			t.Errorf("%v was modified to %v, or %v is wrong", kept, room, second)
		}
	}
}

func TestSharesKeepNoState(t *testing.T) {
	g := game(3, 0, 0, 6, 0, 6, 0, 6)
	for range 3 {
		wantShapley(t, g, dividedInto(wholes(4, 1, 1)...))
		wantShapley(t, game(2, 1, 2), division{})
		wantShapley(t, game(1, -3), dividedInto(wholes(-3)...))
		wantDividends(t, g, 0, 0, 0, 6, 0, 6, 0, -6)
		wantDividends(t, game(2, 1, 2, 501))
		wantDividends(t, game(2, 1, 2, 5), 0, 1, 2, 2)
		wantOfDividends(t, 3, []int{0, 0, 0, 6, 0, 6, 0, -6}, built{g, true})
		wantOfDividends(t, 3, []int{0, 0, 0, 6, 0, 6, 0}, built{})
		wantOfDividends(t, 1, []int{0, 9}, built{game(1, 9), true})
		wantPotential(t, g, wholes(0, 0, 0, 3, 0, 3, 0, 4)...)
		wantPotential(t, game(1, 501))
		wantPotential(t, game(1, 5), wholes(0, 5)...)
	}
}
