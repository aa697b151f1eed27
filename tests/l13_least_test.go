package tests

import (
	"fmt"
	"math"
	"slices"
	"testing"

	"loop.example/g00520/impl"
)

func leastCore(excess impl.Rat, point, weights []impl.Rat) impl.LeastResult {
	return impl.LeastResult{Ok: true, Excess: excess, Point: point, Weights: weights}
}

func isSameLeast(a, b impl.LeastResult) bool {
	return a.Ok == b.Ok && a.Excess == b.Excess && slices.Equal(a.Point, b.Point) && slices.Equal(a.Weights, b.Weights)
}

func copyLeast(r impl.LeastResult) impl.LeastResult {
	r.Point, r.Weights = slices.Clone(r.Point), slices.Clone(r.Weights)
	return r
}

func hollowLeast(r impl.LeastResult, absent bool) impl.LeastResult {
	r.Point, r.Weights = hollow(r.Point, absent), hollow(r.Weights, absent)
	return r
}

// guardLeast also returns the check of the memory around Point and Weights.
func guardLeast(r impl.LeastResult) (impl.LeastResult, func(t *testing.T, call string)) {
	point, weights := guardRats(r.Point), guardRats(r.Weights)
	r.Point, r.Weights = point.given, weights.given
	return r, func(t *testing.T, call string) {
		t.Helper()
		point.wantUnchanged(t, call)
		weights.wantUnchanged(t, call)
	}
}

func leastResults() results[impl.LeastResult] {
	change := func(t *testing.T, call string, r impl.LeastResult) { scribbleBoth(t, call, r.Point, r.Weights) }
	return results[impl.LeastResult]{copyLeast, change, isSameLeast}
}

func wantLeastLP(t *testing.T, g impl.Game, want program) {
	t.Helper()
	wantProgram(t, "LeastLP", g, impl.LeastLP, want)
}

// wantLeast also passes nil and empty slices in place of those without elements.
func wantLeast(t *testing.T, g impl.Game, want impl.LeastResult) {
	t.Helper()
	x, values := guardGame(g)
	got := leastResults().callTwice(t, "FindLeastCore", guardedLists{values}, func() impl.LeastResult { return impl.FindLeastCore(x) })
	for _, absent := range []bool{true, false} {
		if other := impl.FindLeastCore(hollowGame(g, absent)); !isSameLeast(other, want) {
			got = other
		}
	}
	if !isSameLeast(got, want) {
		t.Errorf("FindLeastCore(%v) = %v; want %v", g, got, want)
	}
	wantLeastCheck(t, g, got, got.Ok)
}

// wantLeastCheck does the same for CheckLeastCore.
func wantLeastCheck(t *testing.T, g impl.Game, r impl.LeastResult, want bool) {
	t.Helper()
	call := fmt.Sprint("CheckLeastCore ", r)
	guarded, wantUnchanged := guardLeast(r)
	for _, r := range []impl.LeastResult{guarded, hollowLeast(r, true), hollowLeast(r, false)} {
		wantOfGame(t, call, g, func(g impl.Game) bool { return impl.CheckLeastCore(g, r) }, want)
	}
	wantUnchanged(t, call)
}

func wantEqualLeast(t *testing.T, a, b impl.LeastResult, want bool) {
	t.Helper()
	equality[impl.LeastResult]{"EqualLeast", impl.EqualLeast, guardLeast, hollowLeast}.want(t, a, b, want)
}

// definedLeastProgram is the definition of LeastLP.
func definedLeastProgram(g impl.Game) program {
	if !definedGame(g) || g.Players < 2 {
		return program{}
	}
	everyone := len(g.Values) - 1
	var p impl.LP
	for k := range g.Players {
		var row []int
		for s := 1; s < everyone; s++ {
			contains := 0
			if isIn(s, k) {
				contains = 1
			}
			row = append(row, contains)
		}
		p.A, p.B = append(p.A, append(row, -1)), append(p.B, 0)
	}
	var sum []int
	for s := 1; s < everyone; s++ {
		sum, p.C = append(sum, 1), append(p.C, pair(-g.Values[s], 1))
	}
	p.A, p.B, p.C = append(p.A, append(sum, 0)), append(p.B, 1), append(p.C, pair(g.Values[everyone], 1))
	return program{p, true}
}

// definedLeast is the definition of FindLeastCore.
func definedLeast(g impl.Game) impl.LeastResult {
	x := definedLeastProgram(g)
	if !x.ok {
		return impl.LeastResult{}
	}
	solved, _ := definedSolve(x.p)
	if solved.Status != 1 {
		return impl.LeastResult{}
	}
	var point []impl.Rat
	for _, y := range solved.Y[:g.Players] {
		point = append(point, pair(-y.Num, y.Den))
	}
	return leastCore(pair(-solved.Value.Num, solved.Value.Den), point, solved.X)
}

// definedLeastCheck is the definition of CheckLeastCore.
func definedLeastCheck(g impl.Game, r impl.LeastResult) bool {
	x, v := definedLeastProgram(g), judged(g, r.Point)
	if !r.Ok || !x.ok || !v.worst.ok || v.worst.excess != r.Excess || !definedSolution(x.p, r.Weights, x.p.B) {
		return false
	}
	cost, ok := definedDot(x.p.C, r.Weights)
	return ok && cost == pair(-r.Excess.Num, r.Excess.Den)
}

// leastExcess needs no simplex method: a minimal collection, except all players
// alone, shows that the excesses of its coalitions exceed 0 by a certain average,
// and the greatest of these averages can be reached.
func leastExcess(g impl.Game) impl.Rat {
	everyone := len(g.Values) - 1
	greatest, total := math.MinInt32, 1
	for _, c := range collections()[g.Players] {
		if c.isAlone() {
			continue
		}
		beyond, sum := -commonDen*g.Values[everyone], 0
		for i, s := range c.coalitions {
			weight := commonDen / c.weights[i].Den * c.weights[i].Num
			beyond += weight * g.Values[s]
			sum += weight
		}
		if beyond*total > greatest*sum {
			greatest, total = beyond, sum
		}
	}
	average, _ := impl.RatOf(greatest, total)
	return average
}

// isAlone reports whether the collection is that of all players alone.
func (c collection) isAlone() bool { return len(c.coalitions) == 1 }

// leastWeights are the weights of the collection, scaled so that they add up to 1,
// and last that of all players.
func (c collection) leastWeights(n int) []impl.Rat {
	total := pair(0, 1)
	for _, weight := range c.weights {
		total, _ = wantedOperation("+", total, weight)
	}
	w := slices.Repeat(wholes(0), 1<<n-1)
	for i, s := range c.coalitions {
		w[s-1], _ = wantedOperation("/", c.weights[i], total)
	}
	w[1<<n-2], _ = wantedOperation("/", pair(1, 1), total)
	return w
}

func TestLeastLPKnownGames(t *testing.T) {
	two := [][]int{{1, 0, -1}, {0, 1, -1}, {1, 1, 0}}
	wantLeastLP(t, game(2, 1, 2, 5), program{lp(two, []int{0, 0, 1}, wholes(-1, -2, 5)), true})
	wantLeastLP(t, game(2, 0, 0, 0), program{lp(two, []int{0, 0, 1}, wholes(0, 0, 0)), true})
	wantLeastLP(t, game(2, -1, 0, -5), program{lp(two, []int{0, 0, 1}, wholes(1, 0, -5)), true})
	wantLeastLP(t, game(2, 500, -500, 500), program{lp(two, []int{0, 0, 1}, wholes(-500, 500, 500)), true})
	wantLeastLP(t, game(2, -500, 500, -500), program{lp(two, []int{0, 0, 1}, wholes(500, -500, -500)), true})
	three := [][]int{{1, 0, 1, 0, 1, 0, -1}, {0, 1, 1, 0, 0, 1, -1}, {0, 0, 0, 1, 1, 1, -1}, {1, 1, 1, 1, 1, 1, 0}}
	wantLeastLP(t, game(3, 1, 2, 3, 4, 5, 6, 7), program{lp(three, []int{0, 0, 0, 1}, wholes(-1, -2, -3, -4, -5, -6, 7)), true})
	wantLeastLP(t, game(3, 0, 0, 6, 0, -6, 6, 6), program{lp(three, []int{0, 0, 0, 1}, wholes(0, 0, -6, 0, 6, -6, 6)), true})
	for value := -greatestValue; value <= greatestValue; value++ {
		wantLeastLP(t, game(1, value), program{})
	}
}

func TestLeastLPOfMaxPlayers(t *testing.T) {
	n := impl.MaxPlayers
	for _, all := range []int{0, 1, -1, 7, greatestValue, -greatestValue} {
		p, ok := impl.LeastLP(valued(flatGame(n, -3), 31, all))
		if !ok || len(p.A) != 6 || len(p.C) != 31 || p.C[30] != pair(all, 1) || !slices.Equal(p.B, []int{0, 0, 0, 0, 0, 1}) {
			t.Fatalf("LeastLP = %v", p)
		}
		if !slices.Equal(p.A[5], append(slices.Repeat([]int{1}, 30), 0)) || !slices.Equal(p.C[:30], slices.Repeat(wholes(3), 30)) {
			t.Errorf("LeastLP = %v", p)
		}
		for k, row := range p.A[:n] {
			if row[30] != -1 || row[1<<k-1] != 1 || row[(31^1<<k)-1] != 0 {
				t.Errorf("the row of player %d is %v", k, row)
			}
		}
	}
}

func TestLeastLPOfEveryNumberOfPlayers(t *testing.T) {
	d := newDrawn()
	for n := 1; n <= impl.MaxPlayers; n++ {
		for _, g := range d.variedGames(n) {
			want := definedLeastProgram(g)
			if want.ok != (n > 1) || want.ok && (len(want.p.A) != n+1 || len(want.p.A[n]) != 1<<n-1 || len(want.p.C) != 1<<n-1) {
				t.Errorf("the LP of %v is defined as %v", g, want)
			}
			wantLeastLP(t, g, want)
		}
	}
}

// flatLeast is the result for a game without values.
func flatLeast(n int) impl.LeastResult {
	return leastCore(pair(0, 1), slices.Repeat(wholes(0), n), collections()[n][0].leastWeights(n))
}

func TestLeastCoresOfSpoiledGames(t *testing.T) {
	for n := 1; n <= impl.MaxPlayers; n++ {
		flat := flatGame(n, 0)
		wantLeastCheck(t, flat, flatLeast(n), n > 1)
		for _, g := range append(spoiledGames(flat), impl.Game{}, impl.Game{Players: n}, impl.Game{Values: flat.Values}) {
			wantLeastLP(t, g, program{})
			wantLeast(t, g, impl.LeastResult{})
			wantLeastCheck(t, g, flatLeast(n), false)
			for _, r := range emptyLeasts() {
				wantLeastCheck(t, g, r, false)
			}
		}
	}
}

// emptyLeasts are results without Point and Weights.
func emptyLeasts() []impl.LeastResult {
	return []impl.LeastResult{{}, {Ok: true}, leastCore(pair(0, 1), nil, nil), {Excess: pair(0, 1)}}
}

func TestLeastCoresOfOnePlayer(t *testing.T) {
	for value := -greatestValue; value <= greatestValue; value++ {
		g := game(1, value)
		wantLeast(t, g, impl.LeastResult{})
		for _, w := range [][]impl.Rat{nil, wholes(0), wholes(1), wholes(0, 1)} {
			for _, excess := range parts(pair(0, 1), impl.Rat{}, pair(value, 1), pair(-value, 1)) {
				wantLeastCheck(t, g, leastCore(excess, wholes(value), w), false)
			}
		}
	}
}

func TestLeastCoresOfNobodyAndOfMany(t *testing.T) {
	for _, players := range []int{math.MinInt, -1, 0, 6, 7, 16, 63, 64, math.MaxInt, 1<<32 + 2} {
		for _, length := range []int{0, 1, 4, 32, 64, 128, 1 << 16} {
			g := impl.Game{Players: players, Values: make([]int, length)}
			wantLeastLP(t, g, program{})
			wantLeast(t, g, impl.LeastResult{})
			for _, r := range append(emptyLeasts(), flatLeast(2), flatLeast(5)) {
				wantLeastCheck(t, g, r, false)
			}
		}
	}
	long := slices.Repeat(wholes(0), 100000)
	r := flatLeast(4)
	wantLeastCheck(t, flatGame(4, 0), leastCore(r.Excess, long, r.Weights), false)
	wantLeastCheck(t, flatGame(4, 0), leastCore(r.Excess, r.Point, long), false)
	wantLeastCheck(t, flatGame(4, 0), leastCore(r.Excess, r.Point, append(slices.Clone(r.Weights), long...)), false)
	wantLeastCheck(t, flatGame(4, 0), leastCore(r.Excess, long, long), false)
	wantEqualLeast(t, leastCore(r.Excess, long, long), leastCore(r.Excess, long, long[1:]), false)
	wantEqualLeast(t, leastCore(r.Excess, long, long), leastCore(r.Excess, long, long), true)
}

// TestFindLeastCoreOfTwoPlayers has games in which both players gain or lose the
// same.
func TestFindLeastCoreOfTwoPlayers(t *testing.T) {
	values := []int{-greatestValue, -499, -3, -2, 0, 1, 250, 499, greatestValue}
	half := pair(1, 2)
	for _, a := range values {
		for _, b := range values {
			for _, all := range values {
				g := game(2, a, b, all)
				excess, _ := impl.RatOf(a+b-all, 2)
				first, _ := impl.RatOf(a-b+all, 2)
				second, _ := impl.RatOf(b-a+all, 2)
				wantLeast(t, g, leastCore(excess, parts(first, second), parts(half, half, half)))
			}
		}
	}
}

func TestFindLeastCoreKnownGames(t *testing.T) {
	half, third, zero := pair(1, 2), pair(1, 3), pair(0, 1)
	twoThirds := pair(2, 3)
	pairs := parts(zero, zero, third, zero, third, third, twoThirds)
	for _, c := range []struct {
		g    impl.Game
		want impl.LeastResult
	}{
		{game(2, 1, 2, 5), leastCore(pair(-1, 1), wholes(2, 3), parts(half, half, half))},
		{game(2, 3, 3, 5), leastCore(half, parts(pair(5, 2), pair(5, 2)), parts(half, half, half))},
		{game(2, 3, 2, 5), leastCore(zero, wholes(3, 2), parts(half, half, half))},
		{game(2, 0, 0, 0), leastCore(zero, wholes(0, 0), parts(half, half, half))},
		{game(2, 500, 500, -500), leastCore(pair(750, 1), wholes(-250, -250), parts(half, half, half))},
		{game(2, -500, -500, 500), leastCore(pair(-750, 1), wholes(250, 250), parts(half, half, half))},
		// The core is empty.
		{game(3, 0, 0, 6, 0, 6, 6, 6), leastCore(pair(2, 1), wholes(2, 2, 2), pairs)},
		{game(3, 0, 0, 5, 0, 5, 5, 7), leastCore(third, parts(pair(7, 3), pair(7, 3), pair(7, 3)), pairs)},
		{game(3, 0, 0, 4, 0, 5, 6, 7), leastCore(third, parts(pair(4, 3), pair(7, 3), pair(10, 3)), pairs)},
		// It has exactly one point.
		{game(3, 0, 0, 6, 0, 6, 6, 9), leastCore(zero, wholes(3, 3, 3), pairs)},
		{game(3, 0, 0, 4, 0, 6, 6, 8), leastCore(zero, wholes(2, 2, 4), pairs)},
		// It has many of them.
		{game(3, 0, 0, 6, 0, 6, 6, 12), leastCore(pair(-2, 1), wholes(4, 4, 4), pairs)},
		{game(3, 0, 0, 3, 0, 4, 4, 6), leastCore(pair(-1, 3), parts(pair(5, 3), pair(5, 3), pair(8, 3)), pairs)},
		{game(3, 1, 1, 0, 1, 0, 0, 6), leastCore(pair(-1, 1), wholes(2, 2, 2), parts(third, third, zero, third, zero, zero, third))},
		{sizeGame(4, 0, 0, 6, 8), leastCore(zero, wholes(2, 2, 2, 2), sizeLeast(4, 3, pair(1, 4), pair(3, 4)))},
		{sizeGame(4, 0, 0, 6, 4), leastCore(pair(3, 1), wholes(1, 1, 1, 1), sizeLeast(4, 3, pair(1, 4), pair(3, 4)))},
		{sizeGame(4, 7, 0, 0, 8), leastCore(pair(5, 1), wholes(2, 2, 2, 2), sizeLeast(4, 1, pair(1, 4), pair(1, 4)))},
		{sizeGame(5, 0, 0, 0, 4, 6), leastCore(pair(-4, 5), slices.Repeat(parts(pair(6, 5)), 5), sizeLeast(5, 4, pair(1, 5), pair(4, 5)))},
		{sizeGame(5, -7, -99, -99, -99, -3), leastCore(pair(-32, 5), slices.Repeat(parts(pair(-3, 5)), 5), sizeLeast(5, 1, pair(1, 5), pair(1, 5)))},
	} {
		wantLeast(t, c.g, c.want)
		if defined := definedLeast(c.g); !isSameLeast(defined, c.want) || leastExcess(c.g) != c.want.Excess {
			t.Errorf("the result for %v is defined as %v, not as %v", c.g, defined, c.want)
		}
	}
}

// sizeLeast gives all coalitions of a size the same weight, and all players
// another one.
func sizeLeast(n, size int, weight, last impl.Rat) []impl.Rat {
	return with(sizeWeights(n, size, weight), 1<<n-2, last)
}

func TestFindLeastCoreAtTheLimits(t *testing.T) {
	most := greatestValue
	for n := 2; n <= impl.MaxPlayers; n++ {
		everyone := 1<<n - 1
		for _, flat := range []int{most, -most, 0} {
			for _, all := range []int{most, -most, most - 1, 1 - most, 0} {
				g := valued(flatGame(n, flat), everyone, all)
				wantLeast(t, g, definedLeast(g))
				wantLeastExcess(t, g, impl.FindLeastCore(g))
			}
		}
		for s := 1; s <= everyone; s++ {
			for _, value := range []int{most, -most} {
				for _, other := range []int{0, -value} {
					g := valued(flatGame(n, other), s, value)
					wantLeastExcess(t, g, impl.FindLeastCore(g))
				}
			}
		}
	}
}

// wantLeastExcess examines a result without the simplex method.
func wantLeastExcess(t *testing.T, g impl.Game, r impl.LeastResult) {
	t.Helper()
	if !r.Ok || r.Excess != leastExcess(g) {
		t.Errorf("the result for %v is %v; want the excess %v", g, r, leastExcess(g))
	}
	if !definedLeastCheck(g, r) || !impl.CheckLeastCore(g, r) {
		t.Errorf("the result %v is wrong for %v", r, g)
	}
}

// TestFindLeastCoreOfTightGames has every minimal collection in turn as the only
// one that matters: its coalitions earn their shares of x, and all players as
// much, one more, or one less.
func TestFindLeastCoreOfTightGames(t *testing.T) {
	for n := 2; n <= impl.MaxPlayers; n++ {
		x, everyone := []int{4, -3, 0, 7, 11}[:n], 1<<n-1
		for _, c := range collections()[n] {
			if c.isAlone() {
				continue
			}
			g, w := tightGame(x, c), c.leastWeights(n)
			for s := 1; s < everyone; s++ {
				if !slices.Contains(c.coalitions, s) {
					g.Values[s] -= 200
				}
			}
			for more := -1; more <= 1; more++ {
				g := valued(g, everyone, g.Values[everyone]+more)
				r := impl.FindLeastCore(g)
				// What all players earn more goes to the coalitions in equal parts.
				excess, _ := wantedOperation("*", pair(-more, 1), w[everyone-1])
				if r.Excess != excess || !slices.Equal(r.Weights, w) {
					t.Errorf("FindLeastCore(%v) = %v; want the weights %v", g, r, w)
				}
				if more == 0 && len(c.coalitions) == n && !slices.Equal(r.Point, wholes(x...)) {
					t.Errorf("FindLeastCore(%v) = %v", g, r)
				}
				wantLeastExcess(t, g, r)
			}
		}
	}
}

func TestFindLeastCoreAgainstItsDefinition(t *testing.T) {
	tally := map[string]int{}
	for _, g := range slices.Concat(gamesOver(1, -1, 0, 1), gamesOver(2, -2, -1, 0, 1, 2, 3), gamesOver(3, 0, 1), gamesOver(3, -1, 2)) {
		wantDefinedLeast(t, g, tally)
	}
	d := newDrawn()
	for n := 3; n <= impl.MaxPlayers; n++ {
		for range 12 {
			for _, g := range append(d.drawnKinds(n), d.fairGame(n)) {
				wantDefinedLeast(t, g, tally)
			}
		}
	}
	wantTallies(t, tally, 30, "-1 integer", "0 integer", "1 integer", "-1 fraction", "1 fraction")
	wantTallies(t, tally, 3, "one player")
}

// wantDefinedLeast compares FindLeastCore with its definition, and the sign of
// Excess with what FindCore says.
func wantDefinedLeast(t *testing.T, g impl.Game, tally map[string]int) {
	t.Helper()
	want := definedLeast(g)
	wantLeast(t, g, want)
	if g.Players == 1 {
		tally["one player"]++
		return
	}
	wantLeastExcess(t, g, want)
	sign := definedOrder(want.Excess, pair(0, 1))
	if isEmpty := impl.FindCore(g).Code == 2; isEmpty != (sign > 0) || isEmpty != definedEmpty(g) {
		t.Errorf("the least excess of %v is %v, but its core is empty: %t", g, want.Excess, isEmpty)
	}
	kind := "fraction"
	if want.Excess.Den == 1 {
		kind = "integer"
	}
	tally[fmt.Sprint(sign, " ", kind)]++
}

// TestThePointOfTheLeastCoreAndTheCore has games with a core: the Point is in it.
func TestThePointOfTheLeastCoreAndTheCore(t *testing.T) {
	d, tally := newDrawn(), map[string]int{}
	for n := 2; n <= impl.MaxPlayers; n++ {
		for range 30 {
			for _, g := range append(d.drawnKinds(n), d.fairGame(n)) {
				r, core := impl.FindLeastCore(g), impl.FindCore(g)
				if !r.Ok || impl.InCore(g, r.Point) != (core.Code == 1) || (r.Excess.Num <= 0) != (core.Code == 1) {
					t.Errorf("FindLeastCore(%v) = %v, but FindCore is %v", g, r, core)
				}
				tally[impl.CoreName(core.Code)]++
			}
		}
	}
	wantTallies(t, tally, 100, "point", "empty")
}

// TestNoPayoffHasASmallerWorstExcess examines promise 13 with payoffs near the
// Point and far from it.
func TestNoPayoffHasASmallerWorstExcess(t *testing.T) {
	d, tally := newDrawn(), map[string]int{}
	for n := 2; n <= impl.MaxPlayers; n++ {
		for range 30 {
			for _, g := range append(d.drawnKinds(n), d.fairGame(n)) {
				r := impl.FindLeastCore(g)
				if !r.Ok || !impl.CheckLeastCore(g, r) {
					t.Errorf("CheckLeastCore does not accept %v of %v", r, g)
				}
				for _, x := range append(d.drawnPayoffs(g), d.neighbours(r.Point)...) {
					worst, _, ok := impl.WorstExcess(g, x)
					if !ok {
						continue
					}
					order := impl.CompareRat(worst, r.Excess)
					if order < 0 || judged(g, x).worst.excess != worst {
						t.Errorf("FindLeastCore(%v) = %v, but the worst excess of %v is %v", g, r, x, worst)
					}
					if impl.CheckLeastCore(g, leastCore(worst, x, r.Weights)) != (order == 0) {
						t.Errorf("CheckLeastCore is wrong about the payoff %v of %v", x, g)
					}
					tally[fmt.Sprint(order)]++
				}
			}
		}
	}
	wantTallies(t, tally, 1000, "0", "1")
}

// neighbours move a little of x from each player to another one.
func (d drawn) neighbours(x []impl.Rat) [][]impl.Rat {
	list := [][]impl.Rat{x}
	for i := range x {
		for j := range x {
			step := pair(1, parts(pair(1, 1), pair(7, 1), pair(1000, 1))[d.Intn(3)].Num)
			if i != j {
				more, _ := impl.AddRat(x[i], step)
				less, _ := impl.SubRat(x[j], step)
				list = append(list, with(with(x, i, more), j, less))
			}
		}
	}
	return list
}

func TestMarginalVectorsAndTheLeastCore(t *testing.T) {
	d := newDrawn()
	for n := 2; n <= impl.MaxPlayers; n++ {
		for range 40 {
			g := d.convexGame(n, 5)
			r := impl.FindLeastCore(g)
			worst, _, ok := impl.WorstExcess(g, d.fairPayoff(g))
			if !r.Ok || r.Excess.Num > 0 || !ok || worst.Num > 0 || impl.CompareRat(worst, r.Excess) < 0 {
				t.Errorf("FindLeastCore(%v) = %v, but a marginal vector has the worst excess %v", g, r, worst)
			}
		}
	}
}

// majority is a game of three players, of whom any two earn 6, with the only
// right result but for its weights, which are the only ones as well.
func majority() (impl.Game, impl.LeastResult) {
	third, zero := pair(1, 3), pair(0, 1)
	r := leastCore(pair(2, 1), wholes(2, 2, 2), parts(zero, zero, third, zero, third, third, pair(2, 3)))
	return game(3, 0, 0, 6, 0, 6, 6, 6), r
}

func TestCheckLeastCoreOfOneChange(t *testing.T) {
	g, r := majority()
	wantLeastCheck(t, g, r, true)
	change := func(change func(r *impl.LeastResult)) {
		t.Helper()
		other := copyLeast(r)
		change(&other)
		wantLeastCheck(t, g, other, false)
	}
	change(func(r *impl.LeastResult) { r.Ok = false })
	for _, excess := range append(badRats(), nearRats(r.Excess)...) {
		change(func(r *impl.LeastResult) { r.Excess = excess })
	}
	for _, v := range otherVectors(r.Point) {
		change(func(r *impl.LeastResult) { r.Point = v })
	}
	for _, v := range otherVectors(r.Weights) {
		change(func(r *impl.LeastResult) { r.Weights = v })
	}
	change(func(r *impl.LeastResult) { r.Point, r.Weights = r.Weights, r.Point })
	// The game is another one.
	for s := range g.Values {
		for _, more := range []int{1, -1} {
			isFree := s == 1 || s == 2 || s == 4
			wantLeastCheck(t, valued(g, s, g.Values[s]+more), r, isFree)
		}
	}
	for _, other := range []impl.Game{game(2, 2, 2, 4), flatGame(4, 2), game(1, 6), flatGame(3, 0)} {
		wantLeastCheck(t, other, r, false)
	}
}

// nearRats are other fractions, just below r, just above it, and farther off.
func nearRats(r impl.Rat) []impl.Rat {
	list := parts(pair(-r.Num-1, r.Den), pair(2*r.Num, 2*r.Den), pair(-r.Num, -r.Den))
	for _, step := range parts(pair(1, 1), pair(1, 2), pair(1, 1000), pair(1, 1000003), pair(1, 99999989)) {
		more, _ := wantedOperation("+", r, step)
		less, _ := wantedOperation("-", r, step)
		list = append(list, more, less)
	}
	return list
}

func TestCheckLeastCoreOfOtherExcesses(t *testing.T) {
	d := newDrawn()
	for n := 2; n <= impl.MaxPlayers; n++ {
		for range 4 {
			for _, g := range append(d.drawnKinds(n), d.fairGame(n)) {
				r := impl.FindLeastCore(g)
				for _, excess := range append(nearRats(r.Excess), impl.Rat{}) {
					wantLeastCheck(t, g, leastCore(excess, r.Point, r.Weights), false)
				}
				wantLeastCheck(t, g, impl.LeastResult{Excess: r.Excess, Point: r.Point, Weights: r.Weights}, false)
			}
		}
	}
}

// TestCheckLeastCoreOfOtherPoints has a game whose least core is the payoffs of 0
// for player 0 that give each of the others at least -5.
func TestCheckLeastCoreOfOtherPoints(t *testing.T) {
	g := game(3, 0, -5, -9, -5, -9, 0, 0)
	half, zero := pair(1, 2), pair(0, 1)
	w := parts(half, zero, zero, zero, zero, half, half)
	check := func(excess impl.Rat, want bool, x ...impl.Rat) {
		t.Helper()
		wantLeastCheck(t, g, leastCore(excess, x, w), want)
	}
	for _, r := range parts(zero, half, pair(1, 1), pair(5, 1), pair(-5, 1), pair(14, 3), pair(1, 99999999), pair(-1, 99999999)) {
		check(zero, true, zero, r, pair(-r.Num, r.Den))
	}
	// Another coalition gets too little: its excess is the worst one.
	for _, r := range parts(pair(6, 1), pair(-6, 1), pair(5000001, 1000000), pair(-5000001, 1000000), pair(100, 1)) {
		check(zero, false, zero, r, pair(-r.Num, r.Den))
		worst, _ := wantedOperation("-", pair(max(r.Num, -r.Num), r.Den), pair(5, 1))
		check(worst, false, zero, r, pair(-r.Num, r.Den))
	}
	for _, r := range parts(pair(1, 1), pair(-1, 1), pair(1, 1000000), pair(-1, 1000000)) {
		check(zero, false, r, pair(-r.Num, r.Den), zero)
		check(pair(max(r.Num, -r.Num), r.Den), false, r, pair(-r.Num, r.Den), zero)
		// No payoff.
		check(zero, false, zero, zero, r)
		check(zero, false, r, zero, zero)
	}
	check(zero, false, zero, zero)
	check(zero, false, zero, zero, zero, zero)
	check(zero, false)
	check(zero, false, zero)
	for _, bad := range badRats() {
		check(zero, false, bad, zero, zero)
		check(zero, false, zero, bad, zero)
		check(zero, false, zero, zero, bad)
		check(impl.Rat{}, false, zero, zero, bad)
	}
	// An excess does not fit, although none of them is greater than 0.
	most := greatestPart
	check(zero, false, zero, pair(1, most), pair(-1, most))
	check(zero, false, zero, pair(-1, most), pair(1, most))
	check(impl.Rat{}, false, zero, pair(1, most), pair(-1, most))
	check(zero, true, zero, pair(1, most/10), pair(-1, most/10))
}

// TestCheckLeastCoreOfNoPayoffs has no WorstExcess, whose zero Rat is claimed as
// the Excess, with weights for which the product with C is 0 or does not fit.
func TestCheckLeastCoreOfNoPayoffs(t *testing.T) {
	for n := 1; n <= impl.MaxPlayers; n++ {
		r := flatLeast(n)
		for _, excess := range parts(impl.Rat{}, pair(0, 1)) {
			for _, x := range [][]impl.Rat{nil, slices.Repeat(wholes(0), n+1), slices.Repeat(wholes(1), n), make([]impl.Rat, n)} {
				for _, w := range [][]impl.Rat{nil, r.Weights, make([]impl.Rat, 1<<n-1), wholes(0)} {
					wantLeastCheck(t, flatGame(n, 0), leastCore(excess, x, w), false)
				}
			}
			for _, w := range [][]impl.Rat{nil, make([]impl.Rat, 1<<n-1), wholes(0), r.Weights[1:]} {
				wantLeastCheck(t, flatGame(n, 0), leastCore(excess, r.Point, w), false)
			}
		}
	}
}

func TestCheckLeastCoreOfWeightsThatAreWrong(t *testing.T) {
	for n := 2; n <= impl.MaxPlayers; n++ {
		r, last := flatLeast(n), 1<<n-2
		check := func(want bool, w []impl.Rat) {
			t.Helper()
			wantLeastCheck(t, flatGame(n, 0), leastCore(r.Excess, r.Point, w), want)
		}
		for _, c := range collections()[n][:min(60, len(collections()[n]))] {
			if c.isAlone() {
				check(false, c.weightsFor(n))
				continue
			}
			w := c.leastWeights(n)
			check(true, w)
			// The weights add up to 1 for each player, but not together.
			check(false, c.weightsFor(n))
			check(false, with(c.weightsFor(n), last, pair(1, 1)))
			// The rows of the players are satisfied, but not the last one.
			for _, share := range parts(pair(0, 1), pair(1, 2), pair(2, 1), pair(999999, 1000000), pair(1000001, 1000000)) {
				scaled, _ := impl.AddScaled(slices.Repeat(wholes(0), last+1), share, w)
				check(false, scaled)
			}
			check(false, w[:last])
			check(false, w[1:])
			check(false, append(slices.Clone(w), pair(0, 1)))
			check(false, append(wholes(0), w...))
			for _, near := range nearRats(w[last]) {
				check(false, with(w, last, near))
			}
		}
		for place := range r.Weights {
			for _, bad := range append(badRats(), pair(-1, 1), pair(-1, greatestPart)) {
				check(false, with(r.Weights, place, bad))
			}
		}
		check(false, nil)
	}
}

// TestCheckLeastCoreOfOneRow has weights that satisfy all rows but one.
func TestCheckLeastCoreOfOneRow(t *testing.T) {
	for n := 2; n <= impl.MaxPlayers; n++ {
		r, none := flatLeast(n), slices.Repeat(wholes(0), 1<<n-1)
		check := func(w []impl.Rat, rows ...int) {
			t.Helper()
			wantFaults(t, n, w, rows...)
			wantLeastCheck(t, flatGame(n, 0), leastCore(r.Excess, r.Point, w), len(rows) == 0)
		}
		shares := slices.Clone(none)
		for k := range n {
			shares[1<<k-1] = pair(1, n)
		}
		check(with(shares, 1<<n-2, pair(1, n)))
		for k := range n {
			// The coalition of all others has all weight.
			check(with(with(none, 1<<n-2-1<<k, pair(1, 1)), 1<<n-2, pair(1, 1)), k)
			// Each player alone has an equal weight, but player k twice as much.
			w := slices.Clone(none)
			for i := range n {
				w[1<<i-1] = pair(1, n+1)
			}
			w[1<<k-1], _ = impl.RatOf(2, n+1)
			check(with(w, 1<<n-2, pair(1, n+1)), k)
		}
		check(none, n)
	}
}

// wantFaults checks which rows of the LP for the least core weights do not
// satisfy.
func wantFaults(t *testing.T, n int, w []impl.Rat, rows ...int) {
	t.Helper()
	p := definedLeastProgram(flatGame(n, 0)).p
	var faults []int
	for i, row := range p.A {
		if got, _ := definedDot(wholes(row...), w); got != pair(p.B[i], 1) {
			faults = append(faults, i)
		}
	}
	if !slices.Equal(faults, rows) {
		t.Errorf("%v does not satisfy the rows %v of %d players; want %v", w, faults, n, rows)
	}
}

// TestCheckLeastCoreOfNegativeWeights has weights that satisfy all rows, and of
// which one is less than 0.
func TestCheckLeastCoreOfNegativeWeights(t *testing.T) {
	flat := flatGame(3, 0)
	zero, third := pair(0, 1), pair(1, 3)
	check := func(want bool, w ...impl.Rat) {
		t.Helper()
		wantFaults(t, 3, w)
		wantLeastCheck(t, flat, leastCore(zero, wholes(0, 0, 0), w), want)
	}
	check(true, third, third, zero, third, zero, zero, third)
	check(true, zero, zero, third, zero, third, third, pair(2, 3))
	// Twice the one minus the other: the singles or the pairs are negative.
	check(false, pair(-1, 3), pair(-1, 3), pair(2, 3), pair(-1, 3), pair(2, 3), pair(2, 3), pair(1, 1))
	check(false, pair(2, 3), pair(2, 3), pair(-1, 3), pair(2, 3), pair(-1, 3), pair(-1, 3), zero)
	check(false, pair(-1, 2), pair(1, 2), pair(1, 2), pair(1, 2), pair(1, 2), pair(-1, 2), pair(1, 2))
	check(false, pair(-1, 1000000), zero, pair(500001, 1000000), pair(500001, 1000000), zero, pair(-1, 1000000), pair(1, 2))
	check(false, pair(7, 6), pair(7, 6), pair(-5, 6), pair(7, 6), pair(-5, 6), pair(-5, 6), pair(-1, 2))
}

// TestCheckLeastCoreOfOtherProducts has weights that satisfy all rows, but give
// some weight to coalitions that do not have the worst excess: the product is just
// above the negated Excess. Without them it is equal, and it is never below.
func TestCheckLeastCoreOfOtherProducts(t *testing.T) {
	g, r := majority()
	for _, c := range collections()[3] {
		if c.isAlone() {
			continue
		}
		other := c.leastWeights(3)
		isRight := slices.Equal(other, r.Weights)
		for _, share := range parts(pair(1, 1), pair(1, 2), pair(1, 1000), pair(1, 10000019)) {
			w := mixed(r.Weights, other, share)
			if slices.Equal(w, r.Weights) != isRight {
				t.Errorf("%v is the mixture of %v and %v", w, r.Weights, other)
			}
			wantFaults(t, 3, w)
			p, _ := impl.LeastLP(g)
			cost, fits := impl.DotRat(p.C, w)
			if order := impl.CompareRat(cost, pair(-2, 1)); !fits || (order > 0) == isRight || order < 0 {
				t.Errorf("the product of %v is %v", w, cost)
			}
			wantLeastCheck(t, g, leastCore(r.Excess, r.Point, w), isRight)
			// The product agrees with the claim, but the worst excess is another one.
			wantLeastCheck(t, g, leastCore(pair(-cost.Num, cost.Den), r.Point, w), isRight)
		}
	}
}

// TestCheckLeastCoreOfManyWeights has games in which every coalition earns its
// share: all weights that satisfy the rows are right.
func TestCheckLeastCoreOfManyWeights(t *testing.T) {
	for n := 2; n <= impl.MaxPlayers; n++ {
		x := []int{4, -3, 0, 7, 11}[:n]
		g := fittedGame(x, 0)
		for i, c := range collections()[n][:min(100, len(collections()[n]))] {
			if c.isAlone() {
				continue
			}
			w, other := c.leastWeights(n), collections()[n][i/2].leastWeights(n)
			for _, share := range parts(pair(0, 1), pair(1, 2), pair(1, 3), pair(5, 1009)) {
				wantLeastCheck(t, g, leastCore(pair(0, 1), wholes(x...), mixed(w, other, share)), true)
			}
		}
	}
}

// TestCheckLeastCoreOfProductsThatDoNotFit has weights that are right in integers
// of any size: where their denominator is great, the sum of the first products
// with C does not fit, while the other sums do.
func TestCheckLeastCoreOfProductsThatDoNotFit(t *testing.T) {
	half, zero := pair(1, 2), pair(0, 1)
	for _, den := range []int{4, 10, 1000, 1000000, greatestPart / 10, greatestPart/2 - 2, greatestPart - 2, greatestPart} {
		share, _ := impl.RatOf(1, den)
		rest, _ := impl.SubRat(half, share)
		first := parts(zero, rest, share, share, rest, zero, half)
		second := parts(zero, share, rest, rest, share, zero, half)
		for _, w := range [][]impl.Rat{first, second} {
			wantFaults(t, 3, w)
			wantLeastCheck(t, flatGame(3, 0), leastCore(zero, wholes(0, 0, 0), w), true)
			for _, x := range [][]int{{1, 1, 1}, {1, 2, 3}, {3, -2, 1}, {97, 97, 97}, {97, -97, 0}, {0, 0, 1}} {
				g := fittedGame(x, 0)
				r := leastCore(zero, wholes(x...), w)
				wantLeastCheck(t, g, r, definedLeastCheck(g, r))
			}
		}
		isShort := den <= 1000000
		g, x := fittedGame([]int{97, 97, 97}, 0), wholes(97, 97, 97)
		wantLeastCheck(t, g, leastCore(zero, x, first), isShort)
		wantLeastCheck(t, g, leastCore(zero, x, second), isShort)
		wantLeastCheck(t, g, leastCore(impl.Rat{}, x, first), false)
	}
}

// TestCheckLeastCoreOfRowsThatDoNotFit has four players, and pairs of coalitions
// with opposite members and equal weights: these satisfy all rows, but not all
// sums fit where there are two great denominators.
func TestCheckLeastCoreOfRowsThatDoNotFit(t *testing.T) {
	const p, q = 80000, 120008
	eighths := parts(pair(1, 8), pair(1, 8))
	one, other := parts(pair(1, p), pair(p/4-1, p)), parts(pair(1, q), pair(q/4-1, q))
	flat := flatGame(4, 0)
	for _, places := range [][]int{{1, 2, 3, 4}, {1, 3, 2, 4}, {1, 2, 4, 7}, {7, 6, 5, 4}, {1, 4, 2, 5}, {2, 7, 3, 5}, {6, 1, 5, 3}, {4, 5, 6, 7}} {
		check := func(list []impl.Rat, want bool) {
			t.Helper()
			w := with(slices.Repeat(wholes(0), 15), 14, pair(1, 2))
			for i, s := range places {
				w[s-1], w[14-s] = list[i], list[i]
			}
			r := leastCore(pair(0, 1), wholes(0, 0, 0, 0), w)
			wantLeastCheck(t, flat, r, want)
			if definedLeastCheck(flat, r) != want {
				t.Errorf("%v is not defined as %t", r, want)
			}
		}
		check(slices.Concat(eighths, eighths), true)
		check(slices.Concat(one, eighths), true)
		check(slices.Concat(eighths, one), true)
		check(slices.Concat(other, eighths), true)
		check(slices.Concat(eighths, other), true)
		check(slices.Concat(one, one), true)
		check(slices.Concat(one, other), false)
		check(slices.Concat(other, one), false)
	}
}

// leastClaims are results for a game: the right one, and others in which
// something may be wrong.
func (d drawn) leastClaims(g impl.Game) []impl.LeastResult {
	r := impl.FindLeastCore(g)
	list := []impl.LeastResult{r, {Excess: r.Excess, Point: r.Point, Weights: r.Weights}}
	if !r.Ok {
		return append(list, flatLeast(1), flatLeast(2), leastCore(pair(0, 1), wholes(g.Values[1:]...), wholes(1)))
	}
	for _, x := range append(d.drawnPayoffs(g), d.shifted(r.Point), d.spoilVector(r.Point)) {
		list = append(list, leastCore(r.Excess, x, r.Weights), leastCore(judged(g, x).worst.excess, x, r.Weights))
	}
	for range 4 {
		other := collections()[g.Players][d.Intn(len(collections()[g.Players])-1)].leastWeights(g.Players)
		share, _ := impl.RatOf(d.between(0, 3), parts(pair(3, 1), pair(7, 1), pair(999983, 1), pair(99999989, 1))[d.Intn(4)].Num)
		w := mixed(r.Weights, other, share)
		list = append(list, leastCore(r.Excess, r.Point, w), leastCore(r.Excess, r.Point, other), leastCore(r.Excess, r.Point, d.spoilVector(w)))
	}
	return append(list, leastCore(d.spoilRat(r.Excess), r.Point, r.Weights), leastCore(r.Excess, r.Point, d.drawnWeights(g.Players)))
}

func TestCheckLeastCoreAgainstItsDefinition(t *testing.T) {
	d, tally := newDrawn(), map[string]int{}
	for n := 1; n <= impl.MaxPlayers; n++ {
		for range 12 {
			fitted := fittedGame(d.ints(n, -60, 60), 0)
			for _, g := range append(d.drawnKinds(n), d.fairGame(n), fitted, fitted) {
				r := impl.FindLeastCore(g)
				for _, claim := range d.leastClaims(g) {
					want := definedLeastCheck(g, claim)
					wantLeastCheck(t, g, claim, want)
					if !slices.Equal(claim.Point, r.Point) {
						tally[fmt.Sprint("Point ", want)]++
					}
					if !slices.Equal(claim.Weights, r.Weights) {
						tally[fmt.Sprint("Weights ", want)]++
					}
					tally[fmt.Sprint(want)]++
				}
			}
		}
	}
	wantTallies(t, tally, 300, "true", "false", "Point false", "Weights true", "Weights false")
	wantTallies(t, tally, 50, "Point true")
}

func TestEqualLeastComparesEveryField(t *testing.T) {
	_, full := majority()
	strange := impl.LeastResult{Excess: pair(math.MinInt, -1), Point: badRats(), Weights: badRats()}
	for _, r := range []impl.LeastResult{{}, {Ok: true}, full, flatLeast(5), flatLeast(1), strange} {
		wantEqualLeast(t, r, r, true)
		wantEqualLeast(t, r, copyLeast(r), true)
		change := func(change func(r *impl.LeastResult)) {
			t.Helper()
			other := copyLeast(r)
			change(&other)
			wantEqualLeast(t, r, other, false)
		}
		change(func(r *impl.LeastResult) { r.Ok = !r.Ok })
		for _, n := range []int{1, -1, 8, 1 << 32, math.MinInt} {
			change(func(r *impl.LeastResult) { r.Excess.Num += n })
			change(func(r *impl.LeastResult) { r.Excess.Den += n })
		}
		for _, v := range otherVectors(r.Point) {
			change(func(r *impl.LeastResult) { r.Point = v })
		}
		for _, v := range otherVectors(r.Weights) {
			change(func(r *impl.LeastResult) { r.Weights = v })
		}
	}
}

// TestEqualLeastComparesFieldsWithThemselves exchanges what two fields have.
func TestEqualLeastComparesFieldsWithThemselves(t *testing.T) {
	one, two := wholes(1, 2), wholes(2, 1)
	wantEqualLeast(t, leastCore(pair(0, 1), one, two), leastCore(pair(0, 1), two, one), false)
	wantEqualLeast(t, leastCore(pair(0, 1), one, nil), leastCore(pair(0, 1), nil, one), false)
	wantEqualLeast(t, leastCore(pair(0, 1), one, one), leastCore(pair(0, 1), one, two), false)
	wantEqualLeast(t, leastCore(pair(0, 1), one, one), leastCore(pair(0, 1), two, one), false)
	wantEqualLeast(t, leastCore(pair(0, 1), nil, nil), leastCore(pair(0, 1), nil, nil), true)
	// Fractions of the same amount are different if their fields are.
	for _, r := range parts(pair(2, 4), pair(-1, -2), pair(1, 2)) {
		isSame := r == pair(1, 2)
		wantEqualLeast(t, leastCore(r, one, two), leastCore(pair(1, 2), one, two), isSame)
		wantEqualLeast(t, leastCore(r, parts(r), two), leastCore(r, parts(pair(1, 2)), two), isSame)
		wantEqualLeast(t, leastCore(r, one, parts(r)), leastCore(r, one, parts(pair(1, 2))), isSame)
	}
}

// TestLeastCoresInTheSameMemory passes a Point and Weights that overlap.
func TestLeastCoresInTheSameMemory(t *testing.T) {
	room := parts(pair(1, 2), pair(1, 2), pair(1, 2), pair(2, 1))
	r := leastCore(pair(1, 2), room[:2], room[:3])
	for range 2 {
		if !impl.CheckLeastCore(game(2, 1, 1, 1), r) || impl.CheckLeastCore(game(2, 1, 1, 2), r) || !impl.EqualLeast(r, r) {
			t.Errorf("CheckLeastCore or EqualLeast is wrong about %v", r)
		}
		if impl.EqualLeast(r, leastCore(pair(1, 2), room[:3], room[:2])) {
			t.Errorf("EqualLeast is wrong about %v", r)
		}
		if !slices.Equal(room, parts(pair(1, 2), pair(1, 2), pair(1, 2), pair(2, 1))) {
			t.Errorf("the arguments were modified to %v", room)
		}
	}
}

func TestLeastCoresKeepNoState(t *testing.T) {
	g, r := majority()
	for range 3 {
		wantLeast(t, g, r)
		wantLeast(t, game(2, 1, 2, 5), leastCore(pair(-1, 1), wholes(2, 3), parts(pair(1, 2), pair(1, 2), pair(1, 2))))
		wantLeast(t, game(1, 7), impl.LeastResult{})
		wantLeast(t, game(2, 3, 3), impl.LeastResult{})
		wantLeastLP(t, game(1, 7), program{})
		wantLeastLP(t, g, definedLeastProgram(g))
		wantLeastCheck(t, g, r, true)
		wantLeastCheck(t, g, leastCore(pair(1, 1), r.Point, r.Weights), false)
		wantEqualLeast(t, r, r, true)
		wantEqualLeast(t, r, impl.LeastResult{}, false)
	}
}
