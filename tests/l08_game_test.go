package tests

import (
	"fmt"
	"math"
	"slices"
	"testing"

	"loop.example/g00520/impl"
)

const greatestValue = 500

// game has these values after the 0 of the empty coalition.
func game(players int, values ...int) impl.Game {
	return impl.Game{Players: players, Values: append([]int{0}, values...)}
}

// flatGame has the same value for all coalitions but the empty one.
func flatGame(players, value int) impl.Game {
	return game(players, slices.Repeat([]int{value}, 1<<players-1)...)
}

// plainGame has a different value for each coalition, which is not the sum of
// those of its members.
func plainGame(players int) impl.Game {
	g := flatGame(players, 0)
	for s := 1; s < len(g.Values); s++ {
		g.Values[s] = 7*s - 100
	}
	return g
}

// valued returns g with another value of one coalition.
func valued(g impl.Game, s, value int) impl.Game {
	return impl.Game{Players: g.Players, Values: with(g.Values, s, value)}
}

func copyGame(g impl.Game) impl.Game {
	return impl.Game{Players: g.Players, Values: slices.Clone(g.Values)}
}

func isSameGame(a, b impl.Game) bool {
	return a.Players == b.Players && slices.Equal(a.Values, b.Values)
}

func hollowGame(g impl.Game, absent bool) impl.Game {
	return impl.Game{Players: g.Players, Values: hollow(g.Values, absent)}
}

// guardedLists are the lists of integers that one call has as arguments.
type guardedLists []guarded[int]

func (l guardedLists) wantUnchanged(t *testing.T, call string) {
	t.Helper()
	for _, list := range l {
		list.wantUnchanged(t, call)
	}
}

func (l guardedLists) scribble() {
	for _, list := range l {
		scribble(list.whole, -99)
	}
}

// guardGame surrounds the values with others that a game may have.
func guardGame(g impl.Game) (impl.Game, guarded[int]) {
	values := guard(g.Values, 7)
	return impl.Game{Players: g.Players, Values: values.given}, values
}

// built is the complete result of a function that makes a game; the zero value
// is that of a call without a game.
type built struct {
	game impl.Game
	ok   bool
}

func builtBy(g impl.Game, ok bool) built { return built{g, ok} }

func isSameBuilt(a, b built) bool { return a.ok == b.ok && isSameGame(a.game, b.game) }

func builtResults() results[built] {
	copied := func(b built) built { return built{copyGame(b.game), b.ok} }
	change := func(t *testing.T, call string, b built) { scribble(b.game.Values, -88) }
	return results[built]{copied, change, isSameBuilt}
}

func callAdd(t *testing.T, a, b impl.Game) built {
	t.Helper()
	x, xValues := guardGame(a)
	y, yValues := guardGame(b)
	return builtResults().callTwice(t, "AddGames", guardedLists{xValues, yValues}, func() built {
		return builtBy(impl.AddGames(x, y))
	})
}

func callScale(t *testing.T, g impl.Game, k int, list []int) built {
	t.Helper()
	x, values := guardGame(g)
	added := guard(list, 7)
	return builtResults().callTwice(t, "ScaleGame", guardedLists{values, added}, func() built {
		return builtBy(impl.ScaleGame(x, k, added.given))
	})
}

func callRestrict(t *testing.T, g impl.Game, s int) built {
	t.Helper()
	x, values := guardGame(g)
	return builtResults().callTwice(t, "Restrict", guardedLists{values}, func() built {
		return builtBy(impl.Restrict(x, s))
	})
}

// wantBuilt also checks that a game beside true is valid.
func wantBuilt(t *testing.T, call string, got, want built) {
	t.Helper()
	if !isSameBuilt(got, want) {
		t.Errorf("%s = %v; want %v", call, got, want)
	}
	if got.ok && (!definedGame(got.game) || !impl.IsValidGame(got.game)) {
		t.Errorf("%s = %v, which is not valid", call, got)
	}
}

// wantAdd checks AddGames in both orders, and with nil and empty slices in place
// of those without elements.
func wantAdd(t *testing.T, a, b impl.Game, want built) {
	t.Helper()
	for range 2 {
		call := fmt.Sprint("AddGames", a, b)
		wantBuilt(t, call, callAdd(t, a, b), want)
		for _, absent := range []bool{true, false} {
			wantBuilt(t, call, builtBy(impl.AddGames(hollowGame(a, absent), hollowGame(b, !absent))), want)
			wantBuilt(t, call, builtBy(impl.AddGames(hollowGame(a, absent), hollowGame(b, absent))), want)
		}
		a, b = b, a
	}
}

func wantScale(t *testing.T, g impl.Game, k int, list []int, want built) {
	t.Helper()
	call := fmt.Sprint("ScaleGame", g, k, list)
	wantBuilt(t, call, callScale(t, g, k, list), want)
	for _, absent := range []bool{true, false} {
		wantBuilt(t, call, builtBy(impl.ScaleGame(hollowGame(g, absent), k, hollow(list, absent))), want)
		wantBuilt(t, call, builtBy(impl.ScaleGame(hollowGame(g, absent), k, hollow(list, !absent))), want)
	}
}

func wantRestrict(t *testing.T, g impl.Game, s int, want built) {
	t.Helper()
	call := fmt.Sprint("Restrict", g, s)
	wantBuilt(t, call, callRestrict(t, g, s), want)
	for _, absent := range []bool{true, false} {
		wantBuilt(t, call, builtBy(impl.Restrict(hollowGame(g, absent), s)), want)
	}
}

// wantOfGame checks what a function that returns no slice says of a game.
func wantOfGame[R comparable](t *testing.T, call string, g impl.Game, function func(g impl.Game) R, want R) {
	t.Helper()
	x, values := guardGame(g)
	got := function(x)
	for _, absent := range []bool{true, false} {
		if other := function(hollowGame(g, absent)); other != want {
			got = other
		}
	}
	if got != want {
		t.Errorf("%s of %v = %v; want %v", call, g, got, want)
	}
	values.wantUnchanged(t, call)
}

func wantValue(t *testing.T, g impl.Game, s, want int) {
	t.Helper()
	wantOfGame(t, fmt.Sprint("ValueOf ", s), g, func(g impl.Game) int { return impl.ValueOf(g, s) }, want)
}

func wantGrand(t *testing.T, g impl.Game, want int) {
	t.Helper()
	wantOfGame(t, "GrandValue", g, impl.GrandValue, want)
}

func wantValidGame(t *testing.T, g impl.Game, want bool) {
	t.Helper()
	wantOfGame(t, "IsValidGame", g, impl.IsValidGame, want)
}

func wantEqualGames(t *testing.T, a, b impl.Game, want bool) {
	t.Helper()
	guard := func(g impl.Game) (impl.Game, func(t *testing.T, call string)) {
		x, values := guardGame(g)
		return x, values.wantUnchanged
	}
	equality[impl.Game]{"EqualGame", impl.EqualGame, guard, hollowGame}.want(t, a, b, want)
}

// definedGame is the definition of a valid game.
func definedGame(g impl.Game) bool {
	counts := map[int]int{1: 2, 2: 4, 3: 8, 4: 16, 5: 32}
	if counts[g.Players] == 0 || len(g.Values) != counts[g.Players] {
		return false
	}
	for _, value := range g.Values {
		if value < -greatestValue || value > greatestValue {
			return false
		}
	}
	return g.Values[0] == 0
}

// definedBuilt is the result of a function that computes these values.
func definedBuilt(players int, values []int) built {
	if g := (impl.Game{Players: players, Values: values}); definedGame(g) {
		return built{g, true}
	}
	return built{}
}

func definedSum(a, b impl.Game) built {
	if !definedGame(a) || !definedGame(b) || a.Players != b.Players {
		return built{}
	}
	var values []int
	for s := range a.Values {
		values = append(values, a.Values[s]+b.Values[s])
	}
	return definedBuilt(a.Players, values)
}

func isGameNumber(n int) bool { return n >= -greatestValue && n <= greatestValue }

func definedMultiple(g impl.Game, k int, list []int) built {
	if !definedGame(g) || len(list) != g.Players || !isGameNumber(k) {
		return built{}
	}
	var values []int
	for s := range g.Values {
		values = append(values, k*g.Values[s])
		for player, n := range list {
			if !isGameNumber(n) {
				return built{}
			}
			if isIn(s, player) {
				values[s] += n
			}
		}
	}
	return definedBuilt(g.Players, values)
}

// definedRestriction gives each player of the new game, by the letter, the
// letter of the old one.
func definedRestriction(g impl.Game, s int) built {
	if !definedGame(g) || s < 1 || s >= len(g.Values) {
		return built{}
	}
	texts := coalitionTexts()
	letters := texts[s]
	values := []int{0}
	for _, text := range texts[1 : 1<<len(letters)] {
		old := []byte(text)
		for i := range old {
			old[i] = letters[old[i]-'a']
		}
		values = append(values, g.Values[slices.Index(texts, string(old))])
	}
	return definedBuilt(len(letters), values)
}

// beyondValues are no values of any game.
func beyondValues() []int {
	return []int{
		greatestValue + 1, -greatestValue - 1, 1000, -1000, 1 << 31, -1 << 31, 1 << 32, -1 << 32,
		math.MaxInt, math.MaxInt - 1, math.MinInt, math.MinInt + 1,
	}
}

// otherPlayers are numbers of players that a game of n players does not have.
func otherPlayers(n int) []int {
	list := []int{63, 64, 65, 1<<31 + n, 1 << 32, 1<<32 + n, -1<<32 + n, 1 << 62, math.MaxInt, math.MinInt, math.MinInt + n}
	for players := -7; players <= 40; players++ {
		if players != n {
			list = append(list, players)
		}
	}
	return list
}

// spoiledGames are a valid game with one fault each.
func spoiledGames(g impl.Game) []impl.Game {
	n := g.Players
	var list []impl.Game
	for _, players := range otherPlayers(n) {
		list = append(list, impl.Game{Players: players, Values: g.Values})
	}
	for _, values := range [][]int{
		nil, g.Values[:1], g.Values[:len(g.Values)-1], g.Values[1:], append([]int{0}, g.Values...),
		append(slices.Clone(g.Values), 0), append(slices.Clone(g.Values), 1), slices.Repeat(g.Values, 2),
	} {
		if len(values) != len(g.Values) {
			list = append(list, impl.Game{Players: n, Values: values})
		}
	}
	for s := range g.Values {
		for _, value := range beyondValues() {
			list = append(list, valued(g, s, value))
		}
	}
	for _, value := range []int{1, -1, 7, greatestValue, -greatestValue} {
		list = append(list, valued(g, 0, value))
	}
	return list
}

func TestMaxValue(t *testing.T) {
	if impl.MaxValue != greatestValue {
		t.Errorf("MaxValue = %d", impl.MaxValue)
	}
}

// TestIsValidGameSizes examines 0, 1, MaxPlayers and more players with every
// number of values.
func TestIsValidGameSizes(t *testing.T) {
	for _, players := range append(otherPlayers(3), 3) {
		for length := range 131 {
			want := players >= 1 && players <= impl.MaxPlayers && length == 1<<players
			wantValidGame(t, impl.Game{Players: players, Values: make([]int, length)}, want)
		}
	}
}

func TestIsValidGameValues(t *testing.T) {
	for n := 1; n <= impl.MaxPlayers; n++ {
		wantValidGame(t, plainGame(n), true)
		wantValidGame(t, flatGame(n, 0), true)
		wantValidGame(t, flatGame(n, greatestValue), true)
		wantValidGame(t, flatGame(n, -greatestValue), true)
		wantValidGame(t, flatGame(n, greatestValue+1), false)
		wantValidGame(t, flatGame(n, -greatestValue-1), false)
		for s := range 1 << n {
			for _, value := range []int{1, -1, greatestValue - 1, 1 - greatestValue, greatestValue, -greatestValue} {
				wantValidGame(t, valued(plainGame(n), s, value), s > 0)
			}
			wantValidGame(t, valued(plainGame(n), s, 0), true)
			for _, value := range beyondValues() {
				wantValidGame(t, valued(plainGame(n), s, value), false)
			}
		}
	}
}

// TestSpoiledGames checks every function with games that are not valid.
func TestSpoiledGames(t *testing.T) {
	for n := 1; n <= impl.MaxPlayers; n++ {
		plain, zeros := plainGame(n), make([]int, n)
		for _, g := range append(spoiledGames(plain), impl.Game{}) {
			wantValidGame(t, g, false)
			wantGrand(t, g, 0)
			wantAdd(t, g, plain, built{})
			wantAdd(t, g, g, built{})
			wantScale(t, g, 1, zeros, built{})
			wantScale(t, g, 0, zeros, built{})
			for s := -1; s <= 1<<n; s++ {
				if s <= 3 || s >= 1<<n-1 {
					wantRestrict(t, g, s, built{})
				}
			}
			for s, value := range g.Values {
				wantValue(t, g, s, value)
			}
			wantValue(t, g, -1, 0)
			wantValue(t, g, len(g.Values), 0)
			wantEqualGames(t, g, plain, false)
			wantEqualGames(t, g, copyGame(g), true)
		}
	}
}

// TestSumsOfSpoiledGamesThatWrapAround examines games whose sums and products
// would be valid if they wrapped around.
func TestSumsOfSpoiledGamesThatWrapAround(t *testing.T) {
	for _, values := range [][2]int{
		{math.MinInt, math.MinInt}, {math.MaxInt, math.MinInt}, {math.MaxInt, -math.MaxInt}, {1 << 32, -1 << 32},
		{greatestValue + 1, -1}, {-greatestValue - 1, greatestValue}, {501, -501},
	} {
		wantAdd(t, game(1, values[0]), game(1, values[1]), built{})
		wantAdd(t, game(2, 1, 2, values[0]), game(2, 1, 2, values[1]), built{})
		wantAdd(t, impl.Game{Players: 1, Values: values[:1]}, impl.Game{Players: 1, Values: values[1:]}, built{})
	}
	wantAdd(t, impl.Game{Players: 1, Values: []int{1, 0}}, impl.Game{Players: 1, Values: []int{-1, 0}}, built{})
	for _, k := range []int{0, 1, 2, 256, -2} {
		wantScale(t, game(1, 1<<62), k, []int{0}, built{})
		wantScale(t, game(1, math.MinInt), k, []int{0}, built{})
		wantScale(t, game(1, 1<<56), k, []int{0}, built{})
		wantScale(t, impl.Game{Players: 1, Values: []int{1, 0}}, k, []int{0}, built{})
	}
	for _, k := range []int{1 << 62, math.MinInt, 1 << 61} {
		wantScale(t, game(1, 4), k, []int{0}, built{})
		wantScale(t, game(1, 0), k, []int{0}, built{})
	}
	wantScale(t, game(1, 1), math.MaxInt, []int{-math.MaxInt}, built{})
	wantScale(t, game(2, 0, 0, 0), 1, []int{math.MinInt, math.MinInt}, built{})
}

func TestValueOfKnownValues(t *testing.T) {
	g := game(3, 1, -2, 3, 4, -5, 6, 500)
	for s, want := range []int{0, 1, -2, 3, 4, -5, 6, 500} {
		wantValue(t, g, s, want)
	}
	wantValue(t, g, 8, 0)
	wantValue(t, g, 15, 0)
	wantValue(t, g, -1, 0)
	wantValue(t, g, -8, 0)
}

func TestValueOfBeyondTheValues(t *testing.T) {
	for n := 1; n <= impl.MaxPlayers; n++ {
		g := plainGame(n)
		for s, value := range g.Values {
			wantValue(t, g, s, value)
		}
		for _, s := range append(beyondPlaces(1<<n), noCoalitions()...) {
			if s < 0 || s >= 1<<n {
				wantValue(t, g, s, 0)
			}
		}
	}
}

// TestValueOfGamesThatAreNotValid examines values of games that could have no
// such coalition.
func TestValueOfGamesThatAreNotValid(t *testing.T) {
	for _, players := range otherPlayers(2) {
		g := impl.Game{Players: players, Values: []int{9, 1000, math.MinInt}}
		wantValue(t, g, -1, 0)
		wantValue(t, g, 0, 9)
		wantValue(t, g, 1, 1000)
		wantValue(t, g, 2, math.MinInt)
		wantValue(t, g, 3, 0)
		wantValue(t, impl.Game{Players: players}, 0, 0)
		wantValue(t, impl.Game{Players: players}, -1, 0)
		wantValue(t, impl.Game{Players: players}, 1, 0)
	}
	long := impl.Game{Players: 1, Values: make([]int, 100)}
	long.Values[2], long.Values[32], long.Values[99] = 5, 6, 7
	for s, want := range map[int]int{0: 0, 2: 5, 31: 0, 32: 6, 99: 7, 100: 0} {
		wantValue(t, long, s, want)
	}
}

func TestGrandValueKnownValues(t *testing.T) {
	wantGrand(t, game(1, 3), 3)
	wantGrand(t, game(2, 1, 2, 5), 5)
	wantGrand(t, game(2, 7, 8, -9), -9)
	wantGrand(t, game(3, 9, 9, 9, 9, 9, 9, 0), 0)
	for n := 1; n <= impl.MaxPlayers; n++ {
		wantGrand(t, plainGame(n), 7*(1<<n-1)-100)
		for _, value := range []int{0, 1, -1, greatestValue, -greatestValue} {
			wantGrand(t, valued(plainGame(n), 1<<n-1, value), value)
		}
		for _, value := range beyondValues() {
			wantGrand(t, valued(plainGame(n), 1<<n-1, value), 0)
			wantGrand(t, valued(plainGame(n), n-1, value), 0)
		}
	}
}

func TestEqualGameComparesEveryField(t *testing.T) {
	strange := impl.Game{Players: math.MinInt, Values: beyondValues()}
	for _, g := range []impl.Game{{}, {Players: 3}, game(1, 0), game(2, 1, 2, 5), plainGame(3), plainGame(5), strange} {
		wantEqualGames(t, g, g, true)
		wantEqualGames(t, g, copyGame(g), true)
		for _, n := range []int{1, -1, 8, 1 << 32, math.MinInt} {
			wantEqualGames(t, g, impl.Game{Players: g.Players + n, Values: g.Values}, false)
			for s, value := range g.Values {
				wantEqualGames(t, g, valued(g, s, value+n), false)
			}
		}
		longer := append(slices.Clone(g.Values), 0)
		wantEqualGames(t, g, impl.Game{Players: g.Players, Values: longer}, false)
		if len(g.Values) > 0 {
			wantEqualGames(t, g, impl.Game{Players: g.Players}, false)
			wantEqualGames(t, g, impl.Game{Players: g.Players, Values: g.Values[1:]}, false)
			wantEqualGames(t, g, impl.Game{Players: g.Players, Values: g.Values[:len(g.Values)-1]}, false)
		}
	}
	wantEqualGames(t, game(2, 1, 2, 5), game(2, 2, 1, 5), false)
	wantEqualGames(t, flatGame(2, 0), flatGame(3, 0), false)
}

func TestAddGamesKnownSums(t *testing.T) {
	wantAdd(t, game(1, 3), game(1, -5), built{game(1, -2), true})
	wantAdd(t, game(2, 1, 2, 5), game(2, -1, 0, 1), built{game(2, 0, 2, 6), true})
	wantAdd(t, game(3, 1, 2, 3, 4, 5, 6, 7), game(3, 10, 20, 30, 40, 50, 60, 70), built{game(3, 11, 22, 33, 44, 55, 66, 77), true})
	wantAdd(t, game(2, 500, -500, 250), game(2, -500, 500, 250), built{game(2, 0, 0, 500), true})
}

func TestAddGamesOfDifferentPlayers(t *testing.T) {
	for n := 1; n <= impl.MaxPlayers; n++ {
		for m := 1; m <= impl.MaxPlayers; m++ {
			if m != n {
				wantAdd(t, plainGame(n), plainGame(m), built{})
				wantAdd(t, flatGame(n, 0), flatGame(m, 0), built{})
			}
		}
	}
}

// TestAddGamesAtTheLimits has one sum after the other at the limits and beyond.
func TestAddGamesAtTheLimits(t *testing.T) {
	for n := 1; n <= impl.MaxPlayers; n++ {
		for s := 1; s < 1<<n; s++ {
			for _, value := range []int{0, 1, 250, greatestValue - 1, greatestValue} {
				rest := greatestValue - value
				for _, sign := range []int{1, -1} {
					a := valued(flatGame(n, 3), s, sign*value)
					b := valued(flatGame(n, -4), s, sign*rest)
					wantAdd(t, a, b, built{valued(flatGame(n, -1), s, sign*greatestValue), true})
					if rest < greatestValue {
						wantAdd(t, a, valued(b, s, sign*(rest+1)), built{})
					} else {
						wantAdd(t, valued(a, s, sign), b, built{})
					}
				}
			}
		}
		most, least := flatGame(n, greatestValue), flatGame(n, -greatestValue)
		wantAdd(t, most, flatGame(n, 0), built{most, true})
		wantAdd(t, least, flatGame(n, 0), built{least, true})
		wantAdd(t, most, least, built{flatGame(n, 0), true})
		wantAdd(t, most, most, built{})
		wantAdd(t, least, least, built{})
	}
}

// drawnGame draws a game with values at most so far from 0.
func (d drawn) drawnGame(players, most int) impl.Game {
	return game(players, d.ints(1<<players-1, -most, most)...)
}

// TestAddGamesAgainstItsDefinition counts how often there is a sum, so that both
// cases are examined.
func TestAddGamesAgainstItsDefinition(t *testing.T) {
	d, sums, others := newDrawn(), 0, 0
	for n := 1; n <= impl.MaxPlayers; n++ {
		for _, most := range []int{3, 250, 255, 300, greatestValue} {
			for range 60 {
				a, b := d.drawnGame(n, most), d.drawnGame(n, most)
				want := definedSum(a, b)
				wantAdd(t, a, b, want)
				if want.ok {
					sums++
				} else {
					others++
				}
			}
		}
	}
	if sums < 300 || others < 300 {
		t.Errorf("there are %d sums, and %d others", sums, others)
	}
}

// TestSumsOfGamesAreGames examines what follows from the definition of a sum.
func TestSumsOfGamesAreGames(t *testing.T) {
	d := newDrawn()
	for n := 1; n <= impl.MaxPlayers; n++ {
		for range 100 {
			a, b, c := d.drawnGame(n, 160), d.drawnGame(n, 160), d.drawnGame(n, 160)
			sum, ok := impl.AddGames(a, b)
			if !ok || !impl.IsValidGame(sum) || impl.GrandValue(sum) != impl.GrandValue(a)+impl.GrandValue(b) {
				t.Errorf("AddGames(%v, %v) = %v, %t", a, b, sum, ok)
				continue
			}
			for s := range sum.Values {
				if impl.ValueOf(sum, s) != impl.ValueOf(a, s)+impl.ValueOf(b, s) {
					t.Errorf("AddGames(%v, %v) = %v at %d", a, b, sum, s)
				}
			}
			wantAdd(t, sum, flatGame(n, 0), built{sum, true})
			opposite, ok := impl.ScaleGame(b, -1, make([]int, n))
			if !ok {
				t.Errorf("there is no opposite of %v", b)
			}
			wantAdd(t, sum, opposite, built{a, true})
			other, _ := impl.AddGames(b, c)
			wantAdd(t, sum, c, builtBy(impl.AddGames(a, other)))
		}
	}
}

func TestScaleGameKnownGames(t *testing.T) {
	wantScale(t, game(2, 1, 2, 5), 2, []int{10, -1}, built{game(2, 12, 3, 19), true})
	wantScale(t, game(2, 1, 2, 5), 1, []int{0, 0}, built{game(2, 1, 2, 5), true})
	wantScale(t, game(2, 1, 2, 5), -3, []int{0, 0}, built{game(2, -3, -6, -15), true})
	wantScale(t, game(1, 7), 0, []int{-4}, built{game(1, -4), true})
	wantScale(t, flatGame(3, 0), 9, []int{1, 20, 300}, built{game(3, 1, 20, 21, 300, 301, 320, 321), true})
	wantScale(t, plainGame(3), 0, []int{1, 20, 300}, built{game(3, 1, 20, 21, 300, 301, 320, 321), true})
	wantScale(t, game(3, 1, 2, 3, 4, 5, 6, 7), 10, []int{0, 0, -5}, built{game(3, 10, 20, 30, 35, 45, 55, 65), true})
	powers := []int{1, 2, 4, 8, 16}
	for n := 1; n <= impl.MaxPlayers; n++ {
		want := flatGame(n, 0)
		for s := range want.Values {
			want.Values[s] = s
		}
		wantScale(t, plainGame(n), 0, powers[:n], built{want, true})
	}
}

func TestScaleGameLimitsOfItsArguments(t *testing.T) {
	for n := 1; n <= impl.MaxPlayers; n++ {
		zero, zeros := flatGame(n, 0), make([]int, n)
		for _, k := range []int{0, greatestValue - 1, greatestValue, -greatestValue} {
			wantScale(t, zero, k, zeros, built{zero, true})
			wantScale(t, flatGame(n, 1), k, zeros, built{flatGame(n, k), true})
			wantScale(t, flatGame(n, -1), k, zeros, built{flatGame(n, -k), true})
		}
		for _, k := range beyondValues() {
			wantScale(t, zero, k, zeros, built{})
			wantScale(t, flatGame(n, 1), k, zeros, built{})
		}
		for player := range n {
			for _, added := range []int{1, greatestValue - 1, greatestValue, -greatestValue} {
				want := flatGame(n, 0)
				for s := range want.Values {
					if isIn(s, player) {
						want.Values[s] = added
					}
				}
				wantScale(t, zero, greatestValue, with(zeros, player, added), built{want, true})
			}
			for _, added := range beyondValues() {
				wantScale(t, zero, 1, with(zeros, player, added), built{})
				wantScale(t, flatGame(n, -1), greatestValue, with(zeros, player, added), built{})
			}
		}
	}
}

func TestScaleGameOfOtherLists(t *testing.T) {
	for n := 1; n <= impl.MaxPlayers; n++ {
		for length := range 40 {
			if length == n {
				continue
			}
			wantScale(t, plainGame(n), 1, make([]int, length), built{})
			wantScale(t, flatGame(n, 0), 0, slices.Repeat([]int{1}, length), built{})
		}
		wantScale(t, plainGame(n), 1, nil, built{})
	}
}

// TestScaleGameAtTheLimits has one value after the other at the limits and
// beyond, by the factor and by the list.
func TestScaleGameAtTheLimits(t *testing.T) {
	for n := 1; n <= impl.MaxPlayers; n++ {
		zeros := make([]int, n)
		for s := 1; s < 1<<n; s++ {
			for _, sign := range []int{1, -1} {
				g := valued(flatGame(n, 1), s, sign*100)
				wantScale(t, g, 5, zeros, built{valued(flatGame(n, 5), s, sign*500), true})
				wantScale(t, g, -5, zeros, built{valued(flatGame(n, -5), s, -sign*500), true})
				wantScale(t, valued(g, s, sign*101), 5, zeros, built{})
				wantScale(t, valued(g, s, sign*101), -5, zeros, built{})
				wantScale(t, valued(g, s, sign*167), 3, zeros, built{})
				full, first := valued(flatGame(n, 0), s, sign*greatestValue), impl.MembersOf(s)[0]
				wantScale(t, full, 1, with(zeros, first, sign), built{})
				less := with(zeros, first, -sign)
				wantScale(t, full, 1, less, definedMultiple(full, 1, less))
			}
		}
	}
}

// TestScaleGameOfTermsBeyondTheLimits has valid sums of terms that are not.
func TestScaleGameOfTermsBeyondTheLimits(t *testing.T) {
	wantScale(t, game(1, 500), 2, []int{-500}, built{game(1, 500), true})
	wantScale(t, game(1, -500), 2, []int{500}, built{game(1, -500), true})
	wantScale(t, game(1, 500), 2, []int{-499}, built{})
	wantScale(t, game(1, -500), 2, []int{499}, built{})
	wantScale(t, game(1, 500), 500, []int{-500}, built{})
	wantScale(t, game(2, 0, 0, -500), 1, []int{500, 500}, built{game(2, 500, 500, 500), true})
	wantScale(t, game(2, 0, 0, -499), 1, []int{500, 500}, built{})
	wantScale(t, game(3, 0, 0, -500, 0, 0, 0, 0), 1, []int{500, 500, -500}, built{game(3, 500, 500, 500, -500, 0, 0, 500), true})
	all := flatGame(5, 0)
	for s := range all.Values {
		all.Values[s] = -100 * impl.SizeOf(s)
	}
	wantScale(t, all, 5, slices.Repeat([]int{500}, 5), built{flatGame(5, 0), true})
	wantScale(t, all, -5, slices.Repeat([]int{-500}, 5), built{flatGame(5, 0), true})
	want := flatGame(5, 0)
	for s := 16; s < 32; s++ {
		want.Values[s] = -500
	}
	wantScale(t, all, 5, []int{500, 500, 500, 500, 0}, built{want, true})
	wantScale(t, all, 5, []int{500, 500, 500, 500, -1}, built{})
}

func TestScaleGameAgainstItsDefinition(t *testing.T) {
	d, games, others := newDrawn(), 0, 0
	for n := 1; n <= impl.MaxPlayers; n++ {
		for _, most := range [][3]int{{5, 9, 90}, {100, 4, 100}, {150, 5, 60}, {500, 2, 20}, {1, 500, 400}} {
			for range 60 {
				g, k, list := d.drawnGame(n, most[0]), d.between(-most[1], most[1]), d.ints(n, -most[2], most[2])
				want := definedMultiple(g, k, list)
				wantScale(t, g, k, list, want)
				if want.ok {
					games++
				} else {
					others++
				}
			}
		}
	}
	if games < 300 || others < 300 {
		t.Errorf("there are %d games, and %d others", games, others)
	}
}

// TestMultiplesOfSums examines what follows from the definitions.
func TestMultiplesOfSums(t *testing.T) {
	d := newDrawn()
	for n := 1; n <= impl.MaxPlayers; n++ {
		for range 100 {
			a, b, zeros := d.drawnGame(n, 40), d.drawnGame(n, 40), make([]int, n)
			wantAdd(t, a, a, callScale(t, a, 2, zeros))
			k, x, y := d.between(-3, 3), d.ints(n, -9, 9), d.ints(n, -9, 9)
			var both []int
			for player := range n {
				both = append(both, x[player]+y[player])
			}
			sum := callAdd(t, a, b)
			wantAdd(t, callScale(t, a, k, x).game, callScale(t, b, k, y).game, callScale(t, sum.game, k, both))
		}
	}
}

func TestRestrictKnownGames(t *testing.T) {
	g := game(3, 1, 2, 3, 4, 5, 6, 7)
	for s, want := range map[int]impl.Game{
		1: game(1, 1), 2: game(1, 2), 4: game(1, 4),
		3: game(2, 1, 2, 3), 5: game(2, 1, 4, 5), 6: game(2, 2, 4, 6), 7: g,
	} {
		wantRestrict(t, g, s, built{want, true})
	}
	// The values of five players tell the members.
	digits := flatGame(5, 0)
	for s := range digits.Values {
		digits.Values[s] = s
	}
	wantRestrict(t, digits, 24, built{game(2, 8, 16, 24), true})
	wantRestrict(t, digits, 17, built{game(2, 1, 16, 17), true})
	wantRestrict(t, digits, 22, built{game(3, 2, 4, 6, 16, 18, 20, 22), true})
	wantRestrict(t, digits, 30, built{game(4, 2, 4, 6, 8, 10, 12, 14, 16, 18, 20, 22, 24, 26, 28, 30), true})
	wantRestrict(t, digits, 16, built{game(1, 16), true})
	// A restriction may have nothing but zeros, or the values at the limits.
	wantRestrict(t, game(2, 0, 5, 6), 1, built{game(1, 0), true})
	wantRestrict(t, flatGame(5, greatestValue), 21, built{flatGame(3, greatestValue), true})
	wantRestrict(t, flatGame(5, -greatestValue), 10, built{flatGame(2, -greatestValue), true})
}

func TestRestrictEveryCoalition(t *testing.T) {
	d := newDrawn()
	for n := 1; n <= impl.MaxPlayers; n++ {
		for _, g := range []impl.Game{plainGame(n), flatGame(n, 0), d.drawnGame(n, 3), d.drawnGame(n, greatestValue)} {
			for s := 1; s < 1<<n; s++ {
				want := definedRestriction(g, s)
				if !want.ok || want.game.Players != impl.SizeOf(s) {
					t.Errorf("the restriction of %v to %d is defined as %v", g, s, want)
				}
				wantRestrict(t, g, s, want)
			}
			wantRestrict(t, g, 1<<n-1, built{g, true})
			for player := range n {
				wantRestrict(t, g, 1<<player, built{game(1, g.Values[1<<player]), true})
			}
		}
	}
}

// TestRestrictToOtherCoalitions examines the empty coalition, and those with a
// player who does not exist, beside others who do and alone.
func TestRestrictToOtherCoalitions(t *testing.T) {
	for n := 1; n <= impl.MaxPlayers; n++ {
		wantRestrict(t, plainGame(n), 0, built{})
		for s := 1 << n; s <= 130; s++ {
			wantRestrict(t, plainGame(n), s, built{})
		}
		for _, s := range append(noCoalitions(), beyondPlaces(1<<n)...) {
			if s < 0 || s >= 1<<n {
				wantRestrict(t, plainGame(n), s, built{})
			}
		}
	}
}

// oldCoalition returns the coalition of the members of s whose places among
// these are in part.
func oldCoalition(s, part int) int {
	old := 0
	for place, player := range impl.MembersOf(s) {
		if isIn(part, place) {
			old += 1 << player
		}
	}
	return old
}

// TestRestrictionsOfRestrictions renumbers players twice.
func TestRestrictionsOfRestrictions(t *testing.T) {
	for n := 1; n <= impl.MaxPlayers; n++ {
		g := plainGame(n)
		for s := 1; s < 1<<n; s++ {
			smaller, ok := impl.Restrict(g, s)
			if !ok || impl.GrandValue(smaller) != impl.ValueOf(g, s) {
				t.Errorf("Restrict(%v, %d) = %v, %t", g, s, smaller, ok)
			}
			for part := 1; part < 1<<smaller.Players; part++ {
				if impl.ValueOf(smaller, part) != impl.ValueOf(g, oldCoalition(s, part)) {
					t.Errorf("Restrict(%v, %d) = %v at %d", g, s, smaller, part)
				}
				wantRestrict(t, smaller, part, builtBy(impl.Restrict(g, oldCoalition(s, part))))
			}
		}
	}
}

func TestRestrictionsOfSums(t *testing.T) {
	d := newDrawn()
	for n := 1; n <= impl.MaxPlayers; n++ {
		a, b := d.drawnGame(n, 250), d.drawnGame(n, 250)
		sum := callAdd(t, a, b)
		for s := 1; s < 1<<n; s++ {
			wantAdd(t, callRestrict(t, a, s).game, callRestrict(t, b, s).game, callRestrict(t, sum.game, s))
		}
	}
}

// TestGamesInTheSameMemory passes games and lists whose slices overlap.
func TestGamesInTheSameMemory(t *testing.T) {
	room := []int{0, 1, 0, 3, 0, 5, 6, 7}
	kept := slices.Clone(room)
	a := impl.Game{Players: 2, Values: room[:4]}
	b := impl.Game{Players: 2, Values: room[2:6]}
	for range 2 {
		for _, c := range []struct{ got, want built }{
			{builtBy(impl.AddGames(a, a)), built{game(2, 2, 0, 6), true}},
			{builtBy(impl.AddGames(a, b)), built{game(2, 4, 0, 8), true}},
			{builtBy(impl.ScaleGame(a, 2, room[:2])), built{game(2, 2, 1, 7), true}},
			{builtBy(impl.ScaleGame(b, 1, room[5:7])), built{game(2, 8, 6, 16), true}},
			{builtBy(impl.Restrict(impl.Game{Players: 3, Values: room}, 7)), built{game(3, kept[1:]...), true}},
			{builtBy(impl.Restrict(a, 3)), built{game(2, 1, 0, 3), true}},
		} {
			wantBuilt(t, "a function of games that overlap", c.got, c.want)
			scribble(c.got.game.Values, -88)
		}
		if !slices.Equal(room, kept) || !impl.EqualGame(a, a) || impl.EqualGame(a, b) {
			t.Errorf("%v was modified to %v", kept, room)
		}
	}
}

// TestVeryLargeGames examines arguments far beyond the limits.
func TestVeryLargeGames(t *testing.T) {
	zeros := make([]int, 100000)
	for _, players := range append(otherPlayers(17), 17) {
		g := impl.Game{Players: players, Values: zeros}
		_, added := impl.AddGames(g, g)
		_, scaled := impl.ScaleGame(g, 1, zeros)
		_, restricted := impl.Restrict(g, 1)
		if added || scaled || restricted || impl.IsValidGame(g) || impl.GrandValue(g) != 0 || impl.ValueOf(g, len(zeros)-1) != 0 {
			t.Errorf("a game of %d players and %d values is accepted", players, len(zeros))
		}
		if !impl.EqualGame(g, g) || impl.EqualGame(g, impl.Game{Players: players, Values: zeros[1:]}) {
			t.Errorf("games of %d players and %d values are not compared", players, len(zeros))
		}
	}
	wantScale(t, plainGame(5), 1, zeros, built{})
	wantAdd(t, plainGame(5), impl.Game{Players: 5, Values: zeros}, built{})
}

func TestGamesKeepNoState(t *testing.T) {
	for range 3 {
		wantValidGame(t, game(2, 1, 2, 5), true)
		wantValidGame(t, game(2, 1, 2), false)
		wantAdd(t, game(2, 1, 2, 5), game(2, -1, 0, 1), built{game(2, 0, 2, 6), true})
		wantAdd(t, game(2, 1, 2, 5), game(1, 1), built{})
		wantScale(t, game(2, 1, 2, 5), 2, []int{10, -1}, built{game(2, 12, 3, 19), true})
		wantScale(t, game(2, 1, 2, 5), 2, []int{10}, built{})
		wantRestrict(t, game(3, 1, 2, 3, 4, 5, 6, 7), 6, built{game(2, 2, 4, 6), true})
		wantRestrict(t, game(2, 1, 2, 5), 0, built{})
		wantGrand(t, game(2, 1, 2, 5), 5)
		wantValue(t, game(2, 1, 2, 5), 2, 2)
		wantEqualGames(t, game(2, 1, 2, 5), game(2, 1, 2, 5), true)
	}
}
