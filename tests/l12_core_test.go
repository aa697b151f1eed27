package tests

import (
	"fmt"
	"math"
	"slices"
	"sort"
	"sync"
	"testing"

	"loop.example/g00520/impl"
)

// program is the complete result of a function that makes an LP of a game; the
// zero value is that of a call without an LP.
type program struct {
	p  impl.LP
	ok bool
}

func programBy(p impl.LP, ok bool) program { return program{p, ok} }

func isSameProgram(a, b program) bool {
	return a.ok == b.ok && slices.EqualFunc(a.p.A, b.p.A, slices.Equal[[]int]) &&
		slices.Equal(a.p.B, b.p.B) && slices.Equal(a.p.C, b.p.C)
}

// scribbleProgram changes all memory of an LP, and checks that no two of its
// lists of integers share any.
func scribbleProgram(t *testing.T, call string, x program) {
	t.Helper()
	lists := append(slices.Clone(x.p.A), x.p.B)
	for i, list := range lists {
		scribble(list, -100-i)
	}
	for i, list := range lists {
		for _, n := range list[:cap(list)] {
			if n != -100-i {
				t.Errorf("%s: list %d of the result shares memory with another one", call, i)
				return
			}
		}
	}
	scribble(x.p.A, nil)
	scribble(x.p.C, pair(-88, 1))
}

func programResults() results[program] {
	copied := func(x program) program { return program{copyLP(x.p), x.ok} }
	return results[program]{copied, scribbleProgram, isSameProgram}
}

// wantProgram checks a function that makes an LP of a game.
func wantProgram(t *testing.T, call string, g impl.Game, function func(g impl.Game) (impl.LP, bool), want program) {
	t.Helper()
	x, values := guardGame(g)
	got := programResults().callTwice(t, call, guardedLists{values}, func() program { return programBy(function(x)) })
	for _, absent := range []bool{true, false} {
		if other := programBy(function(hollowGame(g, absent))); !isSameProgram(other, want) {
			got = other
		}
	}
	if !isSameProgram(got, want) {
		t.Errorf("%s(%v) = %v; want %v", call, g, got, want)
	}
	if got.ok && (!impl.IsValidLP(got.p) || !isPlainlyValidLP(got.p)) {
		t.Errorf("%s(%v) = %v, which is not valid", call, g, got)
	}
}

func wantBalancedLP(t *testing.T, g impl.Game, want program) {
	t.Helper()
	wantProgram(t, "BalancedLP", g, impl.BalancedLP, want)
}

// wantBalanced also passes nil and empty slices in place of those without
// elements.
func wantBalanced(t *testing.T, n int, w []impl.Rat, want bool) {
	t.Helper()
	v := guardRats(w)
	got := impl.IsBalancedCollection(n, v.given)
	for _, absent := range []bool{true, false} {
		if impl.IsBalancedCollection(n, hollow(w, absent)) != want {
			got = !want
		}
	}
	if got != want {
		t.Errorf("IsBalancedCollection(%d, %v) = %t", n, w, got)
	}
	v.wantUnchanged(t, "IsBalancedCollection")
}

func corePoint(x ...impl.Rat) impl.CoreResult { return impl.CoreResult{Code: 1, Point: x} }

func emptyCore(w ...impl.Rat) impl.CoreResult { return impl.CoreResult{Code: 2, Weights: w} }

func isSameCore(a, b impl.CoreResult) bool {
	return a.Code == b.Code && slices.Equal(a.Point, b.Point) && slices.Equal(a.Weights, b.Weights)
}

func coreResults() results[impl.CoreResult] {
	copied := func(r impl.CoreResult) impl.CoreResult {
		return impl.CoreResult{Code: r.Code, Point: slices.Clone(r.Point), Weights: slices.Clone(r.Weights)}
	}
	change := func(t *testing.T, call string, r impl.CoreResult) { scribbleBoth(t, call, r.Point, r.Weights) }
	return results[impl.CoreResult]{copied, change, isSameCore}
}

// scribbleBoth changes all memory of two vectors of a result, and checks that they
// share none.
func scribbleBoth(t *testing.T, call string, point, weights []impl.Rat) {
	t.Helper()
	scribble(point, pair(-88, 1))
	scribble(weights, pair(-77, 1))
	if slices.Contains(point[:cap(point)], pair(-77, 1)) {
		t.Errorf("%s: the Point and the Weights share memory", call)
	}
}

// wantFound also passes nil and empty slices in place of those without elements.
func wantFound(t *testing.T, g impl.Game, want impl.CoreResult) {
	t.Helper()
	x, values := guardGame(g)
	got := coreResults().callTwice(t, "FindCore", guardedLists{values}, func() impl.CoreResult { return impl.FindCore(x) })
	for _, absent := range []bool{true, false} {
		if other := impl.FindCore(hollowGame(g, absent)); !isSameCore(other, want) {
			got = other
		}
	}
	if !isSameCore(got, want) {
		t.Errorf("FindCore(%v) = %v; want %v", g, got, want)
	}
	wantCoreCheck(t, g, got, got.Code == 1 || got.Code == 2)
}

// wantCoreCheck does the same for CheckCore.
func wantCoreCheck(t *testing.T, g impl.Game, r impl.CoreResult, want bool) {
	t.Helper()
	call := fmt.Sprint("CheckCore ", r)
	point, weights := guardRats(r.Point), guardRats(r.Weights)
	guarded := impl.CoreResult{Code: r.Code, Point: point.given, Weights: weights.given}
	for _, absent := range []bool{true, false} {
		other := impl.CoreResult{Code: r.Code, Point: hollow(r.Point, absent), Weights: hollow(r.Weights, absent)}
		for _, r := range []impl.CoreResult{guarded, other} {
			wantOfGame(t, call, g, func(g impl.Game) bool { return impl.CheckCore(g, r) }, want)
		}
	}
	point.wantUnchanged(t, call)
	weights.wantUnchanged(t, call)
}

// definedProgram is the definition of BalancedLP.
func definedProgram(g impl.Game) program {
	if !definedGame(g) {
		return program{}
	}
	var p impl.LP
	for k := range g.Players {
		row := make([]int, len(g.Values)-1)
		for s := range g.Values {
			if isIn(s, k) {
				row[s-1] = 1
			}
		}
		p.A, p.B = append(p.A, row), append(p.B, 1)
	}
	for _, value := range g.Values[1:] {
		p.C = append(p.C, pair(-value, 1))
	}
	return program{p, true}
}

// definedBalanced is the definition of IsBalancedCollection.
func definedBalanced(n int, w []impl.Rat) bool {
	if n < 1 || n > 5 || len(w) != 1<<n-1 {
		return false
	}
	if slices.ContainsFunc(w, func(r impl.Rat) bool { return !isPlainlyValid(r) || r.Num < 0 }) {
		return false
	}
	for k := range n {
		sum := ratedAt(0, 1)
		for i, r := range w {
			if sum.ok && isIn(i+1, k) {
				sum = ratedBy(wantedOperation("+", sum.r, r))
			}
		}
		if sum != ratedAt(1, 1) {
			return false
		}
	}
	return true
}

// definedFind is the definition of FindCore.
func definedFind(g impl.Game) impl.CoreResult {
	x := definedProgram(g)
	if !x.ok {
		return impl.CoreResult{}
	}
	r, _ := definedSolve(x.p)
	if r.Status != 1 {
		return impl.CoreResult{Code: 3}
	}
	all := pair(g.Values[len(g.Values)-1], 1)
	if definedOrder(pair(-r.Value.Num, r.Value.Den), all) > 0 {
		return emptyCore(r.X...)
	}
	var point []impl.Rat
	for _, y := range r.Y {
		point = append(point, pair(-y.Num, y.Den))
	}
	rest, _ := wantedOperation("+", all, r.Value)
	last, ok := wantedOperation("+", point[g.Players-1], rest)
	if !ok {
		return impl.CoreResult{Code: 3}
	}
	return corePoint(with(point, g.Players-1, last)...)
}

// definedCoreCheck is the definition of CheckCore.
func definedCoreCheck(g impl.Game, r impl.CoreResult) bool {
	switch r.Code {
	case 1:
		return judged(g, r.Point).inCore
	case 2:
		if !definedGame(g) || !definedBalanced(g.Players, r.Weights) {
			return false
		}
		worth, ok := definedDot(r.Weights, wholes(g.Values[1:]...))
		return ok && definedOrder(worth, pair(g.Values[len(g.Values)-1], 1)) > 0
	}
	return false
}

// collection has coalitions that balance with weights greater than 0, and with no
// others.
type collection struct {
	coalitions []int
	weights    []impl.Rat
}

// onlyWeights solves the equations of the players by elimination. The coalitions
// have no more than one solution; it returns nil if they have none, several ones,
// or one in which a weight is not greater than 0.
func onlyWeights(n int, coalitions []int) []impl.Rat {
	var rows [5][6]int
	count := len(coalitions)
	for k := range n {
		for i, s := range coalitions {
			rows[k][i] = s >> k & 1
		}
		rows[k][count] = 1
	}
	for i := range count {
		k := i
		for k < n && rows[k][i] == 0 {
			k++
		}
		if k >= n {
			return nil
		}
		rows[i], rows[k] = rows[k], rows[i]
		for k := range n {
			if factor := rows[k][i]; k != i && factor != 0 {
				for j := range count + 1 {
					rows[k][j] = rows[k][j]*rows[i][i] - factor*rows[i][j]
				}
			}
		}
	}
	var weights []impl.Rat
	for k := range n {
		if k >= count {
			if rows[k][count] != 0 {
				return nil
			}
			continue
		}
		weight, _ := impl.RatOf(rows[k][count], rows[k][k])
		if weight.Num <= 0 {
			return nil
		}
		weights = append(weights, weight)
	}
	return weights
}

// collections lists the minimal balanced collections of 1 to 5 players. Every
// balanced collection is a mixture of these: a core is empty exactly if one of
// them is worth more than all players earn.
var collections = sync.OnceValue(func() *[6][]collection {
	var lists [6][]collection
	for n := 1; n <= 5; n++ {
		var grow func(first int, coalitions []int)
		grow = func(first int, coalitions []int) {
			if weights := onlyWeights(n, coalitions); len(coalitions) > 0 && weights != nil {
				lists[n] = append(lists[n], collection{slices.Clone(coalitions), weights})
			}
			for s := first; s < 1<<n && len(coalitions) < n; s++ {
				grow(s+1, append(coalitions, s))
			}
		}
		grow(1, nil)
	}
	return &lists
})

// weightsFor returns the weights of all coalitions of n players.
func (c collection) weightsFor(n int) []impl.Rat {
	w := slices.Repeat(wholes(0), 1<<n-1)
	for i, s := range c.coalitions {
		w[s-1] = c.weights[i]
	}
	return w
}

// commonDen is a multiple of the denominators of all weights.
const commonDen = 60

func (c collection) isWorthMore(g impl.Game) bool {
	worth := 0
	for i, s := range c.coalitions {
		worth += commonDen / c.weights[i].Den * c.weights[i].Num * g.Values[s]
	}
	return worth > commonDen*g.Values[len(g.Values)-1]
}

// definedEmpty reports whether the core is empty, without the simplex method.
func definedEmpty(g impl.Game) bool {
	return slices.ContainsFunc(collections()[g.Players], func(c collection) bool { return c.isWorthMore(g) })
}

func TestCoreConstants(t *testing.T) {
	if codes := []int{impl.CoBad, impl.CoPoint, impl.CoEmpty, impl.CoLimit}; !slices.Equal(codes, []int{0, 1, 2, 3}) {
		t.Errorf("the codes are %v", codes)
	}
}

// TestMinimalCollections checks the collections that other tests rely on: their
// numbers are known.
func TestMinimalCollections(t *testing.T) {
	for n, count := range []int{0, 1, 2, 6, 42, 1292} {
		list := collections()[n]
		if len(list) != count {
			t.Errorf("there are %d minimal balanced collections of %d players", len(list), n)
		}
		for _, c := range list {
			if !definedBalanced(n, c.weightsFor(n)) {
				t.Errorf("%v is not balanced", c)
			}
			for _, weight := range c.weights {
				if commonDen%weight.Den != 0 {
					t.Errorf("the worth of %v cannot be computed", c)
				}
			}
		}
	}
}

func TestBalancedLPKnownGames(t *testing.T) {
	wantBalancedLP(t, game(1, 7), program{lp([][]int{{1}}, []int{1}, wholes(-7)), true})
	wantBalancedLP(t, game(1, 0), program{lp([][]int{{1}}, []int{1}, wholes(0)), true})
	wantBalancedLP(t, game(1, -greatestValue), program{lp([][]int{{1}}, []int{1}, wholes(greatestValue)), true})
	wantBalancedLP(t, game(1, greatestValue), program{lp([][]int{{1}}, []int{1}, wholes(-greatestValue)), true})
	two := [][]int{{1, 0, 1}, {0, 1, 1}}
	wantBalancedLP(t, game(2, 1, 2, 5), program{lp(two, []int{1, 1}, wholes(-1, -2, -5)), true})
	wantBalancedLP(t, game(2, -1, 0, 5), program{lp(two, []int{1, 1}, wholes(1, 0, -5)), true})
	three := [][]int{{1, 0, 1, 0, 1, 0, 1}, {0, 1, 1, 0, 0, 1, 1}, {0, 0, 0, 1, 1, 1, 1}}
	wantBalancedLP(t, game(3, 1, 2, 3, 4, 5, 6, 7), program{lp(three, []int{1, 1, 1}, wholes(-1, -2, -3, -4, -5, -6, -7)), true})
	wantBalancedLP(t, game(3, 0, 0, 6, 0, -6, 6, 6), program{lp(three, []int{1, 1, 1}, wholes(0, 0, -6, 0, 6, -6, -6)), true})
}

func TestBalancedLPOfEveryNumberOfPlayers(t *testing.T) {
	d := newDrawn()
	for n := 1; n <= impl.MaxPlayers; n++ {
		for _, g := range d.variedGames(n) {
			want := definedProgram(g)
			if len(want.p.A) != n || len(want.p.A[0]) != 1<<n-1 || len(want.p.C) != 1<<n-1 {
				t.Errorf("the LP of %v is defined as %v", g, want)
			}
			wantBalancedLP(t, g, want)
		}
	}
}

// variedGames have great values in every place, or in one alone.
func (d drawn) variedGames(n int) []impl.Game {
	games := []impl.Game{
		plainGame(n), flatGame(n, 0), flatGame(n, greatestValue), flatGame(n, -greatestValue), d.drawnGame(n, 3),
		d.drawnGame(n, greatestValue), valued(flatGame(n, 0), 1<<n-1, 5),
	}
	for s := 1; s < 1<<n; s++ {
		games = append(games, valued(flatGame(n, 0), s, greatestValue), valued(flatGame(n, 0), s, -greatestValue))
	}
	return games
}

func TestCoresOfSpoiledGames(t *testing.T) {
	for n := 1; n <= impl.MaxPlayers; n++ {
		rich, poor := flatGame(n, 0), valued(flatGame(n, 5), 1<<n-1, 4)
		point, weights := slices.Repeat(wholes(0), n), collection{coalitions: []int{1<<n - 1}, weights: wholes(1)}.weightsFor(n)
		if n > 1 {
			weights = singles(n)
			wantCoreCheck(t, poor, emptyCore(weights...), true)
		}
		wantCoreCheck(t, rich, corePoint(point...), true)
		for _, g := range append(append(spoiledGames(rich), spoiledGames(poor)...), impl.Game{}, impl.Game{Players: n}) {
			wantBalancedLP(t, g, program{})
			wantFound(t, g, impl.CoreResult{})
			wantCoreCheck(t, g, corePoint(point...), false)
			wantCoreCheck(t, g, emptyCore(weights...), false)
			for code := -1; code <= 4; code++ {
				wantCoreCheck(t, g, impl.CoreResult{Code: code}, false)
				wantCoreCheck(t, g, impl.CoreResult{Code: code, Point: point, Weights: weights}, false)
			}
		}
	}
}

// singles are the weights of the players alone.
func singles(n int) []impl.Rat {
	w := slices.Repeat(wholes(0), 1<<n-1)
	for k := range n {
		w[1<<k-1] = pair(1, 1)
	}
	return w
}

func TestIsBalancedCollectionKnownCollections(t *testing.T) {
	half, third := pair(1, 2), pair(1, 3)
	zero, one := pair(0, 1), pair(1, 1)
	for _, c := range []struct {
		n    int
		w    []impl.Rat
		want bool
	}{
		{1, wholes(1), true},
		{1, wholes(0), false},
		{1, wholes(2), false},
		{1, wholes(-1), false},
		{1, parts(half), false},
		{2, wholes(0, 0, 1), true},
		{2, wholes(1, 1, 0), true},
		{2, parts(half, half, half), true},
		{2, parts(third, third, pair(2, 3)), true},
		{2, parts(third, third, third), false},
		{2, parts(half, third, half), false},
		{2, parts(third, half, half), false},
		{2, wholes(0, 0, 0), false},
		{2, wholes(1, 0, 0), false},
		{2, wholes(0, 1, 0), false},
		{2, wholes(1, 1, 1), false},
		{2, wholes(-1, -1, 2), false},
		{2, wholes(2, 2, -1), false},
		{3, parts(zero, zero, half, zero, half, half, zero), true},
		{3, parts(zero, zero, one, zero, one, one, zero), false},
		{3, parts(zero, zero, third, zero, third, third, third), true},
		{3, parts(zero, zero, third, zero, third, third, zero), false},
		{3, wholes(1, 0, 0, 0, 0, 1, 0), true},
		{3, wholes(0, 1, 0, 0, 1, 0, 0), true},
		{3, wholes(0, 0, 1, 1, 0, 0, 0), true},
		{3, wholes(1, 1, 0, 1, 0, 0, 0), true},
		{3, wholes(0, 0, 1, 0, 1, 0, 0), false},
		{3, wholes(0, 0, 0, 0, 0, 0, 1), true},
		{3, wholes(1, 1, 0, 1, 0, 0, 1), false},
		{3, parts(half, zero, zero, zero, half, half, half), false},
		{3, parts(half, half, zero, half, zero, zero, half), true},
		// The sums are right, but a weight is less than 0.
		{3, wholes(0, 0, 1, 0, 1, 1, -1), false},
		{3, wholes(-1, 0, 1, 0, 1, 0, 0), false},
		{3, parts(pair(-1, 3), pair(-1, 3), pair(2, 3), pair(-1, 3), pair(2, 3), pair(2, 3), zero), false},
	} {
		wantBalanced(t, c.n, c.w, c.want)
		if definedBalanced(c.n, c.w) != c.want {
			t.Errorf("%v is not defined as %t", c.w, c.want)
		}
	}
}

// TestIsBalancedCollectionLengths has weights that balance in every number of
// players and of weights where they can.
func TestIsBalancedCollectionLengths(t *testing.T) {
	for _, n := range append(otherPlayers(3), 3) {
		for length := range 70 {
			isLast := n >= 1 && n <= impl.MaxPlayers && length == 1<<n-1
			zeros := slices.Repeat(wholes(0), length)
			wantBalanced(t, n, zeros, false)
			if length > 0 {
				wantBalanced(t, n, with(zeros, length-1, pair(1, 1)), isLast)
			}
			for bits := range 6 {
				if length >= 1<<bits-1 && bits > 0 {
					wantBalanced(t, n, with(zeros, 1<<bits-2, pair(1, 1)), isLast && n == bits)
				}
			}
		}
		wantBalanced(t, n, nil, false)
	}
	for n := 1; n <= impl.MaxPlayers; n++ {
		for _, w := range [][]impl.Rat{singles(n), collections()[n][0].weightsFor(n)} {
			wantBalanced(t, n, w, true)
			wantBalanced(t, n, append(slices.Clone(w), pair(0, 1)), false)
			wantBalanced(t, n, append(wholes(0), w...), false)
			wantBalanced(t, n, w[:len(w)-1], false)
			wantBalanced(t, n, w[1:], false)
			wantBalanced(t, n+1, w, false)
			wantBalanced(t, n-1, w, false)
			wantBalanced(t, -n, w, false)
			wantBalanced(t, n+1<<32, w, false)
		}
	}
	long := slices.Repeat(wholes(0), 100000)
	for n := -1; n <= 18; n++ {
		wantBalanced(t, n, long, false)
	}
	// The collection of all of six players, and their singles.
	wantBalanced(t, 6, append(slices.Repeat(wholes(0), 62), pair(1, 1)), false)
	wantBalanced(t, 6, singles(6), false)
	wantBalanced(t, 0, wholes(1), false)
	for _, n := range []int{math.MinInt, math.MaxInt} {
		wantBalanced(t, n, wholes(1), false)
	}
}

// TestIsBalancedCollectionOfOneUnevenPlayer changes the sum of one player alone,
// by a little and by much: only the weight of the single player does this.
func TestIsBalancedCollectionOfOneUnevenPlayer(t *testing.T) {
	little := pair(1, 1000000)
	for n := 1; n <= impl.MaxPlayers; n++ {
		for _, c := range collections()[n][:min(40, len(collections()[n]))] {
			w := c.weightsFor(n)
			wantBalanced(t, n, w, true)
			for k := range n {
				for _, step := range parts(little, pair(1, 2), pair(1, 1), pair(1, 999983)) {
					more, _ := impl.AddRat(w[1<<k-1], step)
					less, _ := impl.SubRat(w[1<<k-1], step)
					wantBalanced(t, n, with(w, 1<<k-1, more), false)
					wantBalanced(t, n, with(w, 1<<k-1, less), false)
				}
			}
		}
		// Half of the singles, and half of all players.
		mixed := with(singles(n), 1<<n-2, pair(1, 2))
		for k := range n {
			mixed[1<<k-1] = pair(1, 2)
		}
		wantBalanced(t, n, mixed, n > 1)
		for k := range n {
			wantBalanced(t, n, with(mixed, 1<<k-1, pair(499999, 1000000)), false)
			wantBalanced(t, n, with(mixed, 1<<k-1, pair(500001, 1000000)), false)
		}
	}
}

func TestIsBalancedCollectionOfMinimalCollections(t *testing.T) {
	for n := 1; n <= impl.MaxPlayers; n++ {
		for _, c := range collections()[n] {
			w := c.weightsFor(n)
			wantBalanced(t, n, w, true)
			for i, s := range c.coalitions {
				wantBalanced(t, n, with(w, s-1, pair(0, 1)), false)
				wantBalanced(t, n, with(w, s-1, pair(-c.weights[i].Num, c.weights[i].Den)), false)
			}
			wantBalanced(t, n, with(w, 1<<n-2, pair(1, 1)), len(c.coalitions) == 1)
		}
	}
}

// TestIsBalancedCollectionOfBadWeights has a bad weight in each place; weights of
// 0 and of 1 are right without it.
func TestIsBalancedCollectionOfBadWeights(t *testing.T) {
	for _, bad := range append(badRats(), pair(-1, 1), pair(-1, greatestPart)) {
		for n := 1; n <= impl.MaxPlayers; n++ {
			for place := range 1<<n - 1 {
				wantBalanced(t, n, with(singles(n), place, bad), false)
				wantBalanced(t, n, with(collections()[n][0].weightsFor(n), place, bad), false)
			}
			wantBalanced(t, n, slices.Repeat(parts(bad), 1<<n-1), false)
		}
	}
	wantBalanced(t, 1, parts(pair(2, 2)), false)
	wantBalanced(t, 1, parts(pair(-1, -1)), false)
	wantBalanced(t, 2, parts(pair(2, 4), pair(1, 2), pair(1, 2)), false)
	wantBalanced(t, 2, parts(pair(1, 2), pair(1, 2), pair(2, 4)), false)
	wantBalanced(t, 2, parts(pair(1, 1), pair(1, 1), pair(0, 2)), false)
	wantBalanced(t, 2, parts(pair(1, 1), pair(1, 1), impl.Rat{}), false)
	wantBalanced(t, 2, parts(pair(1, 1), pair(1, 1), pair(0, -1)), false)
}

// TestIsBalancedCollectionOfSumsThatDoNotFit has sums that are 1 in integers of
// any size; whether they fit depends on the order of the weights.
func TestIsBalancedCollectionOfSumsThatDoNotFit(t *testing.T) {
	const p, q = 40000, 120004
	a, c, b, d := pair(1, p), pair(p/2-1, p), pair(1, q), pair(q/2-1, q)
	wantBalanced(t, 3, parts(a, c, b, b, c, a, d), false)
	wantBalanced(t, 3, parts(a, a, c, d, b, b, d), true)
	wantBalanced(t, 3, parts(a, a, c, d, b, b, b), false)
	const least, near = greatestPart, greatestPart - 1
	tiny, rest := pair(1, least), pair(near, least)
	wantBalanced(t, 1, parts(tiny), false)
	wantBalanced(t, 1, parts(rest), false)
	wantBalanced(t, 1, wholes(greatestPart), false)
	wantBalanced(t, 2, parts(tiny, tiny, rest), true)
	wantBalanced(t, 2, parts(rest, rest, tiny), true)
	wantBalanced(t, 2, parts(tiny, tiny, pair(near-1, near)), false)
	wantBalanced(t, 2, parts(tiny, pair(1, near), rest), false)
	wantBalanced(t, 2, parts(pair(1, near), tiny, rest), false)
	wantBalanced(t, 2, parts(rest, rest, rest), false)
	wantBalanced(t, 2, wholes(greatestPart, greatestPart, greatestPart), false)
	wantBalanced(t, 2, wholes(1, 1, greatestPart), false)
	for _, w := range [][]impl.Rat{parts(a, c, b, b, c, a, d), parts(a, a, c, d, b, b, d), parts(b, b, a, d, c, c, d)} {
		wantBalanced(t, 3, w, definedBalanced(3, w))
	}
}

func TestIsBalancedCollectionAgainstItsDefinition(t *testing.T) {
	for n := 1; n <= 2; n++ {
		for _, w := range vectorsOver(strangeRats(), 1<<n-1) {
			wantBalanced(t, n, w, definedBalanced(n, w))
		}
	}
	thirds := parts(pair(0, 1), pair(1, 3), pair(2, 3), pair(1, 1))
	for _, w := range vectorsOver(thirds, 7) {
		if got := impl.IsBalancedCollection(3, w); got != definedBalanced(3, w) {
			t.Errorf("IsBalancedCollection(3, %v) = %t", w, got)
		}
	}
	d, tally := newDrawn(), map[string]int{}
	for n := 1; n <= impl.MaxPlayers; n++ {
		for range 300 {
			w := d.drawnWeights(n)
			want := definedBalanced(n, w)
			wantBalanced(t, n, w, want)
			tally[fmt.Sprint(want)]++
		}
	}
	wantTallies(t, tally, 300, "true", "false")
}

// drawnMixture draws balanced weights: a mixture of some minimal collections.
func (d drawn) drawnMixture(n, den int) []impl.Rat {
	list := collections()[n]
	w := list[d.Intn(len(list))].weightsFor(n)
	for range d.Intn(3) {
		share, _ := impl.RatOf(d.between(0, den), den)
		w = mixed(w, list[d.Intn(len(list))].weightsFor(n), share)
	}
	return w
}

// mixed takes a share of b, and the rest of a; all of a if this does not fit.
func mixed(a, b []impl.Rat, share impl.Rat) []impl.Rat {
	rest, _ := impl.SubRat(pair(1, 1), share)
	scaled, _ := impl.AddScaled(slices.Repeat(wholes(0), len(a)), rest, a)
	if sum, ok := impl.AddScaled(scaled, share, b); ok {
		return sum
	}
	return a
}

// drawnWeights draws mixtures, of simple and of rare fractions, and sometimes
// spoils a weight or the length.
func (d drawn) drawnWeights(n int) []impl.Rat {
	w := d.drawnMixture(n, parts(pair(1, 1), pair(2, 1), pair(6, 1), pair(999983, 1), pair(99999989, 1))[d.Intn(5)].Num)
	if d.Intn(3) == 0 {
		w = d.spoilVector(w)
	}
	return w
}

func TestFindCoreKnownGames(t *testing.T) {
	half, third := pair(1, 2), pair(1, 3)
	pairs := with(with(with(slices.Repeat(wholes(0), 7), 2, half), 4, half), 5, half)
	for _, c := range []struct {
		g    impl.Game
		want impl.CoreResult
	}{
		{game(1, 0), corePoint(wholes(0)...)},
		{game(1, 7), corePoint(wholes(7)...)},
		{game(1, -7), corePoint(wholes(-7)...)},
		{game(2, 3, 2, 5), corePoint(wholes(3, 2)...)},
		{game(2, -3, -4, -7), corePoint(wholes(-3, -4)...)},
		{game(2, 5, -5, 0), corePoint(wholes(5, -5)...)},
		{game(2, 0, 0, 0), corePoint(wholes(0, 0)...)},
		{game(2, 1, 2, 5), corePoint(wholes(3, 2)...)},
		{game(2, 3, 3, 5), emptyCore(wholes(1, 1, 0)...)},
		{game(2, -3, -4, -8), emptyCore(wholes(1, 1, 0)...)},
		{game(2, 500, 500, -500), emptyCore(wholes(1, 1, 0)...)},
		{game(3, 0, 0, 6, 0, 6, 6, 6), emptyCore(pairs...)},
		{game(3, 0, 0, 6, 0, 6, 6, 8), emptyCore(pairs...)},
		{game(3, 0, 0, 6, 0, 6, 6, 9), corePoint(wholes(3, 3, 3)...)},
		{game(3, 0, 0, 5, 0, 5, 5, 7), emptyCore(pairs...)},
		{game(3, 0, 0, 4, 0, 5, 6, 7), emptyCore(pairs...)},
		{game(3, 0, 0, 4, 0, 5, 7, 8), corePoint(wholes(1, 3, 4)...)},
		{game(3, 0, 0, 3, 0, 4, 4, 6), corePoint(wholes(2, 2, 2)...)},
		{game(3, 9, 0, 0, 0, 0, 1, 8), emptyCore(wholes(1, 0, 0, 0, 0, 1, 0)...)},
		{game(3, 1, 2, 3, 4, 5, 6, 7), corePoint(wholes(1, 2, 4)...)},
		{game(3, -1, -2, -3, -4, -5, -6, -7), corePoint(wholes(-1, -2, -4)...)},
		{game(3, 1, 2, 3, 4, 5, 6, 6), emptyCore(wholes(1, 1, 0, 1, 0, 0, 0)...)},
		{sizeGame(4, 0, 0, 6, 8), corePoint(wholes(2, 2, 2, 2)...)},
		{sizeGame(4, 0, 0, 6, 7), emptyCore(sizeWeights(4, 3, third)...)},
		{sizeGame(4, 0, 3, 0, 6), corePoint(slices.Repeat(parts(pair(3, 2)), 4)...)},
		{sizeGame(5, 0, 0, 0, 4, 5), corePoint(wholes(1, 1, 1, 1, 1)...)},
		{sizeGame(5, 0, 0, 0, 4, 4), emptyCore(sizeWeights(5, 4, pair(1, 4))...)},
		{sizeGame(5, 7, 0, 0, 0, 35), corePoint(wholes(7, 7, 7, 7, 7)...)},
		{sizeGame(5, 7, 0, 0, 0, 34), emptyCore(singles(5)...)},
	} {
		wantFound(t, c.g, c.want)
		if defined := definedFind(c.g); !isSameCore(defined, c.want) {
			t.Errorf("the result for %v is defined as %v, not as %v", c.g, defined, c.want)
		}
	}
}

// sizeGame gives each coalition the value of its size.
func sizeGame(players int, values ...int) impl.Game {
	return valuedBy(players, func(s int) int { return values[impl.SizeOf(s)-1] })
}

// sizeWeights gives all coalitions of a size the same weight.
func sizeWeights(n, size int, weight impl.Rat) []impl.Rat {
	w := slices.Repeat(wholes(0), 1<<n-1)
	for i := range w {
		if impl.SizeOf(i+1) == size {
			w[i] = weight
		}
	}
	return w
}

func TestFindCoreOfOnePlayer(t *testing.T) {
	for value := -greatestValue; value <= greatestValue; value++ {
		wantFound(t, game(1, value), corePoint(wholes(value)...))
		wantCoreCheck(t, game(1, value), emptyCore(wholes(1)...), false)
		wantCoreCheck(t, game(1, value), corePoint(wholes(value+1)...), false)
	}
}

func TestFindCoreOfTwoPlayers(t *testing.T) {
	for _, a := range []int{-greatestValue, -499, -3, 0, 1, 250, greatestValue} {
		for _, b := range []int{-greatestValue, -2, 0, 1, 250, 499, greatestValue} {
			for _, all := range []int{-greatestValue, -499, a + b - 1, a + b, a + b + 1, 499, greatestValue} {
				if !isGameNumber(all) {
					continue
				}
				g := game(2, a, b, all)
				want := definedFind(g)
				wantFound(t, g, want)
				if a+b > all != (want.Code == 2) || a+b <= all != (want.Code == 1) {
					t.Errorf("FindCore(%v) has the code %d", g, want.Code)
				}
				if a+b == all && !slices.Equal(want.Point, wholes(a, b)) {
					t.Errorf("FindCore(%v) = %v", g, want)
				}
			}
		}
	}
}

func TestFindCoreAtTheLimits(t *testing.T) {
	most := greatestValue
	for n := 2; n <= impl.MaxPlayers; n++ {
		everyone := 1<<n - 1
		wantFound(t, flatGame(n, most), emptyCore(singles(n)...))
		wantFound(t, valued(flatGame(n, most), everyone, -most), emptyCore(singles(n)...))
		wantFound(t, valued(flatGame(n, -most), everyone, most), definedFind(valued(flatGame(n, -most), everyone, most)))
		wantFound(t, flatGame(n, -most), definedFind(flatGame(n, -most)))
		wantFound(t, flatGame(n, 0), corePoint(slices.Repeat(wholes(0), n)...))
		wantFound(t, valued(flatGame(n, 0), everyone, -most), definedFind(valued(flatGame(n, 0), everyone, -most)))
		for s := 1; s <= everyone; s++ {
			for _, value := range []int{most, -most} {
				for _, other := range []int{0, -value, value - 1, value + 1} {
					if isGameNumber(other) {
						g := valued(flatGame(n, other), s, value)
						r := impl.FindCore(g)
						if want := definedEmpty(g); want != (r.Code == 2) || !want != (r.Code == 1) || !definedCoreCheck(g, r) || !impl.CheckCore(g, r) {
							t.Errorf("FindCore(%v) = %v", g, r)
						}
					}
				}
			}
		}
	}
}

// tightGame gives the coalitions of a collection their shares of x, and less to
// all others but that of all players: no other collection is worth as much, and
// x is the only point of the core if the collection has as many coalitions as
// there are players.
func tightGame(x []int, c collection) impl.Game {
	g := fittedGame(x, 0)
	for s := 1; s < len(g.Values)-1; s++ {
		if !slices.Contains(c.coalitions, s) {
			g.Values[s] -= 10
		}
	}
	return g
}

// TestFindCoreOfTightGames has all players earn as much as a collection is worth,
// one more, and one less, for every minimal collection.
func TestFindCoreOfTightGames(t *testing.T) {
	for n := 2; n <= impl.MaxPlayers; n++ {
		x, everyone := []int{4, -3, 0, 7, 11}[:n], 1<<n-1
		for _, c := range collections()[n] {
			if len(c.coalitions) == 1 {
				continue
			}
			g := tightGame(x, c)
			equal, richer, poorer := impl.FindCore(g), valued(g, everyone, g.Values[everyone]+1), valued(g, everyone, g.Values[everyone]-1)
			if equal.Code != 1 || !judged(g, equal.Point).inCore || len(c.coalitions) == n && !slices.Equal(equal.Point, wholes(x...)) {
				t.Errorf("FindCore(%v) = %v", g, equal)
			}
			if r := impl.FindCore(richer); r.Code != 1 || !judged(richer, r.Point).inCore || len(r.Weights) > 0 {
				t.Errorf("FindCore(%v) = %v", richer, r)
			}
			if r := impl.FindCore(poorer); !isSameCore(r, emptyCore(c.weightsFor(n)...)) {
				t.Errorf("FindCore(%v) = %v; want the weights of %v", poorer, r, c)
			}
			// Nobody is worth more than all in the games with a core.
			w := c.weightsFor(n)
			if impl.CheckCore(g, emptyCore(w...)) || impl.CheckCore(richer, emptyCore(w...)) || !impl.CheckCore(poorer, emptyCore(w...)) {
				t.Errorf("CheckCore is wrong about %v in %v, with one more, or with one less", w, g)
			}
		}
	}
}

// TestTheValueIsNeverBelow examines why nothing remains for the last player: all
// players together are a balanced collection, so the negated Value is never less
// than what they earn.
func TestTheValueIsNeverBelow(t *testing.T) {
	d := newDrawn()
	for n := 1; n <= impl.MaxPlayers; n++ {
		for range 20 {
			for _, g := range d.drawnKinds(n) {
				p, _ := impl.BalancedLP(g)
				r := impl.SolveLP(p)
				order := impl.CompareRat(pair(-r.Value.Num, r.Value.Den), pair(g.Values[1<<n-1], 1))
				found := impl.FindCore(g)
				if r.Status != 1 || order < 0 || (order > 0) != (found.Code == 2) {
					t.Errorf("the LP of %v has the result %v, but FindCore is %v", g, r, found)
				}
				if found.Code == 1 && !impl.IsPayoff(g, found.Point) {
					t.Errorf("FindCore(%v) = %v, which is no payoff", g, found)
				}
			}
		}
	}
}

func TestFindCoreAgainstItsDefinition(t *testing.T) {
	tally := map[string]int{}
	for _, g := range slices.Concat(gamesOver(1, -1, 0, 1), gamesOver(2, -2, -1, 0, 1, 2, 3), gamesOver(3, 0, 1), gamesOver(3, -1, 1)) {
		wantDefinedFind(t, g, tally)
	}
	d := newDrawn()
	for n := 3; n <= impl.MaxPlayers; n++ {
		for range 12 {
			for _, g := range append(d.drawnKinds(n), d.fairGame(n)) {
				wantDefinedFind(t, g, tally)
			}
		}
	}
	wantTallies(t, tally, 100, "empty", "point")
	wantTallies(t, tally, 50, "one point")
}

// fairGame draws a game in which all players earn about what the best collection
// is worth.
func (d drawn) fairGame(n int) impl.Game {
	g := d.drawnGame(n, 40)
	all, least := 1<<n-1, -greatestValue
	least += sort.Search(2*greatestValue, func(i int) bool { return !definedEmpty(valued(g, all, i-greatestValue)) })
	return valued(g, all, max(-greatestValue, min(greatestValue, least+d.between(-1, 1))))
}

// wantDefinedFind compares FindCore with its definition, and with the minimal
// balanced collections.
func wantDefinedFind(t *testing.T, g impl.Game, tally map[string]int) {
	t.Helper()
	want := definedFind(g)
	wantFound(t, g, want)
	if isEmpty := definedEmpty(g); isEmpty != (want.Code == 2) || !isEmpty != (want.Code == 1) {
		t.Errorf("FindCore(%v) has the code %d, but the core is empty: %t", g, want.Code, isEmpty)
	}
	if !definedCoreCheck(g, want) {
		t.Errorf("the result %v is wrong for %v", want, g)
	}
	tally[impl.CoreName(want.Code)]++
	all := len(g.Values) - 1
	if want.Code == 1 && g.Values[all] > -greatestValue && definedEmpty(valued(g, all, g.Values[all]-1)) {
		tally["one point"]++
	}
}

func TestCheckCoreKnownResults(t *testing.T) {
	half := pair(1, 2)
	g := game(3, 0, 0, 6, 0, 6, 6, 9)
	wantCoreCheck(t, g, corePoint(wholes(3, 3, 3)...), true)
	wantCoreCheck(t, g, corePoint(wholes(4, 3, 2)...), false)
	wantCoreCheck(t, g, corePoint(wholes(3, 3, 2)...), false)
	wantCoreCheck(t, g, corePoint(wholes(3, 3, 4)...), false)
	wantCoreCheck(t, g, corePoint(wholes(3, 3)...), false)
	wantCoreCheck(t, g, corePoint(wholes(3, 3, 3, 0)...), false)
	wantCoreCheck(t, g, corePoint(), false)
	wantCoreCheck(t, g, corePoint(parts(pair(6, 2), pair(3, 1), pair(3, 1))...), false)
	wantCoreCheck(t, g, corePoint(parts(pair(5, 2), pair(7, 2), pair(3, 1))...), false)
	richer := game(3, 0, 0, 6, 0, 6, 6, 10)
	wantCoreCheck(t, richer, corePoint(wholes(3, 3, 4)...), true)
	wantCoreCheck(t, richer, corePoint(wholes(4, 4, 2)...), true)
	wantCoreCheck(t, richer, corePoint(wholes(5, 4, 1)...), false)
	wantCoreCheck(t, richer, corePoint(parts(pair(10, 3), pair(10, 3), pair(10, 3))...), true)
	poorer := game(3, 0, 0, 6, 0, 6, 6, 8)
	pairs := parts(pair(0, 1), pair(0, 1), half, pair(0, 1), half, half, pair(0, 1))
	wantCoreCheck(t, poorer, emptyCore(pairs...), true)
	wantCoreCheck(t, g, emptyCore(pairs...), false)
	wantCoreCheck(t, richer, emptyCore(pairs...), false)
	wantCoreCheck(t, poorer, emptyCore(pairs[:6]...), false)
	wantCoreCheck(t, poorer, emptyCore(append(pairs, pair(0, 1))...), false)
	wantCoreCheck(t, poorer, emptyCore(wholes(0, 0, 1, 0, 1, 1, 0)...), false)
	wantCoreCheck(t, poorer, emptyCore(wholes(0, 0, 0, 0, 0, 0, 1)...), false)
	wantCoreCheck(t, poorer, emptyCore(wholes(0, 0, 0, 0, 0, 0, 2)...), false)
	wantCoreCheck(t, poorer, emptyCore(wholes(0, 0, 1, 0, 1, 1, -1)...), false)
	wantCoreCheck(t, poorer, emptyCore(wholes(1, 0, 0, 0, 0, 1, 0)...), false)
	wantCoreCheck(t, poorer, emptyCore(), false)
	wantCoreCheck(t, game(2, -1, -1, -3), emptyCore(wholes(1, 1, 0)...), true)
	wantCoreCheck(t, game(2, -1, -1, -3), emptyCore(wholes(0, 0, 1)...), false)
	wantCoreCheck(t, game(2, -1, -2, -3), emptyCore(wholes(1, 1, 0)...), false)
}

// TestCheckCoreOfEveryCode has the right Point, the right Weights, or both, or
// neither beside each code.
func TestCheckCoreOfEveryCode(t *testing.T) {
	rich, poor := game(2, 1, 2, 5), game(2, 3, 3, 5)
	point, weights := wholes(2, 3), wholes(1, 1, 0)
	codes := []int{-1 << 32, 1<<32 + 1, 1<<32 + 2, math.MinInt, math.MaxInt, math.MinInt + 1, math.MinInt + 2}
	for code := -10; code <= 10; code++ {
		codes = append(codes, code)
	}
	others := [][]impl.Rat{nil, wholes(0, 0), wholes(0, 0, 0), badRats(), point, weights, wholes(5, 0), wholes(0, 0, 1)}
	for _, code := range codes {
		wantCoreCheck(t, rich, impl.CoreResult{Code: code}, false)
		wantCoreCheck(t, poor, impl.CoreResult{Code: code}, false)
		for _, other := range others {
			wantCoreCheck(t, rich, impl.CoreResult{Code: code, Point: point, Weights: other}, code == 1)
			wantCoreCheck(t, poor, impl.CoreResult{Code: code, Point: other, Weights: weights}, code == 2)
			wantCoreCheck(t, rich, impl.CoreResult{Code: code, Point: other, Weights: weights}, code == 1 && slices.Equal(other, point))
			wantCoreCheck(t, poor, impl.CoreResult{Code: code, Point: point, Weights: other}, code == 2 && slices.Equal(other, weights))
			wantCoreCheck(t, impl.Game{}, impl.CoreResult{Code: code, Point: other, Weights: other}, false)
		}
	}
}

// TestCheckCoreOfBadFractions has one in each place of a right result.
func TestCheckCoreOfBadFractions(t *testing.T) {
	for n := 2; n <= impl.MaxPlayers; n++ {
		point, weights, poor := slices.Repeat(wholes(0), n), singles(n), valued(flatGame(n, 5), 1<<n-1, 4)
		wantCoreCheck(t, flatGame(n, 0), corePoint(point...), true)
		wantCoreCheck(t, poor, emptyCore(weights...), true)
		for _, bad := range badRats() {
			for k := range n {
				wantCoreCheck(t, flatGame(n, 0), corePoint(with(point, k, bad)...), false)
			}
			for i := range weights {
				wantCoreCheck(t, poor, emptyCore(with(weights, i, bad)...), false)
			}
		}
	}
}

// TestCheckCoreOfWorthsNearAll has two players whose weights are near those of
// all, so that the worth is just above what all earn, just below it, or equal.
func TestCheckCoreOfWorthsNearAll(t *testing.T) {
	for _, den := range []int{1, 2, 3, 1000, 1000003, 999999937, greatestPart} {
		share := pair(1, den)
		rest, _ := impl.RatOf(den-1, den)
		w := parts(share, share, rest)
		wantBalanced(t, 2, w, true)
		wantCoreCheck(t, game(2, 1, 1, 1), emptyCore(w...), den < greatestPart)
		wantCoreCheck(t, game(2, 1, 0, 1), emptyCore(w...), false)
		wantCoreCheck(t, game(2, 0, 1, 1), emptyCore(w...), false)
		wantCoreCheck(t, game(2, 0, 0, 1), emptyCore(w...), false)
		wantCoreCheck(t, game(2, 1, 0, 0), emptyCore(w...), true)
		wantCoreCheck(t, game(2, 0, 0, 0), emptyCore(w...), false)
		wantCoreCheck(t, game(2, 0, 0, -1), emptyCore(w...), true)
		wantCoreCheck(t, game(2, -1, 0, -1), emptyCore(w...), false)
		wantCoreCheck(t, game(2, -1, -1, -1), emptyCore(w...), false)
		// The products are worth more than all, but they must fit.
		isShort := den <= 2000000
		wantCoreCheck(t, game(2, 300, 300, 500), emptyCore(w...), isShort)
		wantCoreCheck(t, game(2, 500, 500, -500), emptyCore(w...), isShort || den == greatestPart)
		wantCoreCheck(t, game(2, 0, 0, -500), emptyCore(w...), isShort || den == greatestPart)
		wantCoreCheck(t, game(2, 0, 500, 500), emptyCore(w...), false)
	}
}

// TestCheckCoreOfProductsThatDoNotFit has a sum that would be right in integers
// of any size, and one in which the order of the coalitions matters.
func TestCheckCoreOfProductsThatDoNotFit(t *testing.T) {
	const p, q = 40000, 120004
	a, c, b, d := pair(1, p), pair(p/2-1, p), pair(1, q), pair(q/2-1, q)
	w := parts(a, a, c, d, b, b, d)
	wantBalanced(t, 3, w, true)
	for _, values := range [][]int{
		{1, 1, 1, 1, 1, 1, 1}, {1, 1, 1, 0, 0, 0, 0}, {0, 0, 1, 1, 0, 0, 0}, {1, 0, 0, 1, 0, 0, 0}, {1, 0, 1, 1, 0, 0, 0},
		{1, 0, 1, 0, 1, 0, 0}, {0, 1, 1, 0, 1, 0, 1}, {0, 0, 0, 0, 1, 1, 1}, {0, 0, 0, 2, 0, 2, 1}, {0, 0, 0, 3, 0, 3, 1},
		{3, 0, 3, 0, 0, 0, 1}, {3, 0, 3, 3, 0, 0, 1}, {0, 0, 0, 1, 0, 1, 1}, {500, 0, 500, 500, 0, 0, 499},
	} {
		g := game(3, values...)
		wantCoreCheck(t, g, emptyCore(w...), definedCoreCheck(g, emptyCore(w...)))
	}
	wantCoreCheck(t, game(3, 1, 0, 1, 0, 0, 0, 0), emptyCore(w...), true)
	wantCoreCheck(t, game(3, 1, 0, 0, 1, 0, 0, 0), emptyCore(w...), false)
	// Nobody gets less than they earn, but a share or an excess does not fit.
	most := greatestPart
	flat := valued(flatGame(3, -greatestValue), 7, 0)
	wantCoreCheck(t, flat, corePoint(wholes(0, 0, 0)...), true)
	wantCoreCheck(t, valued(flat, 7, 1), corePoint(parts(pair(1, most), pair(most-1, most), pair(0, 1))...), false)
	wantCoreCheck(t, game(2, 0, 0, 1), corePoint(parts(pair(1, most), pair(most-1, most))...), true)
	wantCoreCheck(t, game(2, -1, 0, 1), corePoint(parts(pair(1, most), pair(most-1, most))...), false)
}

// claims are the results whose evidence CheckCore examines, drawn for a game.
func (d drawn) claims(g impl.Game) []impl.CoreResult {
	found := impl.FindCore(g)
	list := []impl.CoreResult{
		found, corePoint(found.Point...), emptyCore(found.Weights...), emptyCore(d.drawnWeights(g.Players)...),
		emptyCore(d.drawnWeights(g.Players)...), emptyCore(d.drawnMixture(g.Players, 2)...),
	}
	if found.Code == 1 {
		list = append(list, corePoint(d.shifted(found.Point)...), corePoint(d.spoilVector(found.Point)...))
	}
	if found.Code == 2 {
		list = append(list, emptyCore(d.spoilVector(found.Weights)...))
	}
	for _, x := range d.drawnPayoffs(g) {
		list = append(list, corePoint(x...))
	}
	return list
}

func TestCheckCoreAgainstItsDefinition(t *testing.T) {
	d, tally := newDrawn(), map[string]int{}
	for n := 1; n <= impl.MaxPlayers; n++ {
		for range 25 {
			for _, g := range append(d.drawnKinds(n), d.fairGame(n)) {
				for _, r := range d.claims(g) {
					want := definedCoreCheck(g, r)
					wantCoreCheck(t, g, r, want)
					tally[fmt.Sprint(r.Code, want)]++
				}
			}
		}
	}
	wantTallies(t, tally, 300, "1 true", "1 false", "2 true", "2 false")
}

// TestThePointOrTheCollection examines promise 12 with the results of the
// functions alone: the core has a point or a balanced collection that is worth
// more than all, but never both.
func TestThePointOrTheCollection(t *testing.T) {
	d, tally := newDrawn(), map[string]int{}
	for n := 1; n <= impl.MaxPlayers; n++ {
		for range 40 {
			for _, g := range append(d.drawnKinds(n), d.fairGame(n)) {
				r := impl.FindCore(g)
				if r.Code != 1 && r.Code != 2 || !impl.CheckCore(g, r) {
					t.Errorf("FindCore(%v) = %v, which CheckCore does not accept", g, r)
				}
				for _, other := range d.claims(g) {
					if !impl.CheckCore(g, other) {
						continue
					}
					if other.Code != r.Code {
						t.Errorf("CheckCore accepts both %v and %v of %v", r, other, g)
					}
					tally[impl.CoreName(r.Code)]++
				}
				for _, x := range d.drawnPayoffs(g) {
					if impl.InCore(g, x) && r.Code != 1 {
						t.Errorf("%v is in the core of %v, but FindCore is %v", x, g, r)
					}
				}
			}
		}
	}
	wantTallies(t, tally, 1000, "point", "empty")
}

// TestTheCollectionsOfGamesWithACore has every minimal collection claimed for
// games with a point in the core, and payoffs for games with an empty one.
func TestTheCollectionsOfGamesWithACore(t *testing.T) {
	d := newDrawn()
	for n := 1; n <= 4; n++ {
		for range 10 {
			for _, g := range append(d.drawnKinds(n), d.fairGame(n)) {
				r, accepted := impl.FindCore(g), 0
				for _, c := range collections()[n] {
					if impl.CheckCore(g, emptyCore(c.weightsFor(n)...)) {
						accepted++
					}
				}
				if (accepted > 0) != (r.Code == 2) || (accepted == 0) != (r.Code == 1) {
					t.Errorf("CheckCore accepts %d collections of %v, but FindCore is %v", accepted, g, r)
				}
			}
		}
	}
}

func TestMarginalVectorsAndTheCore(t *testing.T) {
	d := newDrawn()
	for n := 1; n <= impl.MaxPlayers; n++ {
		for range 40 {
			g := d.convexGame(n, 5)
			r := impl.FindCore(g)
			if r.Code != 1 || !impl.CheckCore(g, r) || !impl.CheckCore(g, corePoint(d.fairPayoff(g)...)) {
				t.Errorf("FindCore(%v) = %v, but the game is convex", g, r)
			}
		}
	}
}

func TestCoreName(t *testing.T) {
	names := map[int]string{-1: "?", 0: "bad", 1: "point", 2: "empty", 3: "limit", 4: "?"}
	for code := -100; code <= 100; code++ {
		want := names[code]
		if want == "" {
			want = "?"
		}
		if got := impl.CoreName(code); got != want {
			t.Errorf("CoreName(%d) = %q", code, got)
		}
	}
	for _, code := range []int{math.MinInt, math.MaxInt, 1 << 32, 1<<32 + 1, 1<<32 + 3, -1 << 32, 256, 257, math.MinInt + 2} {
		if got := impl.CoreName(code); got != "?" {
			t.Errorf("CoreName(%d) = %q", code, got)
		}
	}
}

// TestCoresInTheSameMemory passes a Point and Weights that overlap.
func TestCoresInTheSameMemory(t *testing.T) {
	room := wholes(1, 1, 0, 2)
	r := impl.CoreResult{Code: 2, Point: room[:2], Weights: room[:3]}
	for range 2 {
		if !impl.CheckCore(game(2, 3, 3, 5), r) || impl.CheckCore(game(2, 3, 3, 6), r) || !impl.IsBalancedCollection(2, room[:3]) {
			t.Errorf("CheckCore or IsBalancedCollection is wrong about %v", r)
		}
		if !impl.CheckCore(game(2, 1, 1, 2), impl.CoreResult{Code: 1, Point: room[:2], Weights: room}) {
			t.Error("CheckCore does not accept a point")
		}
		if !slices.Equal(room, wholes(1, 1, 0, 2)) {
			t.Errorf("the arguments were modified to %v", room)
		}
	}
}

func TestCoresKeepNoState(t *testing.T) {
	for range 3 {
		wantFound(t, game(3, 0, 0, 6, 0, 6, 6, 9), corePoint(wholes(3, 3, 3)...))
		wantFound(t, game(2, 3, 3, 5), emptyCore(wholes(1, 1, 0)...))
		wantFound(t, game(2, 3, 3), impl.CoreResult{})
		wantFound(t, game(1, 7), corePoint(wholes(7)...))
		wantBalanced(t, 2, wholes(1, 1, 0), true)
		wantBalanced(t, 2, wholes(1, 1, 1), false)
		wantBalancedLP(t, game(1, 7), program{lp([][]int{{1}}, []int{1}, wholes(-7)), true})
		wantBalancedLP(t, game(1, 7, 8), program{})
		wantCoreCheck(t, game(2, 1, 2, 5), corePoint(wholes(2, 3)...), true)
		wantCoreCheck(t, game(2, 1, 2, 5), corePoint(wholes(0, 5)...), false)
	}
}
