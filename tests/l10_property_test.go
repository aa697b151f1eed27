package tests

import (
	"fmt"
	"slices"
	"sync"
	"testing"

	"loop.example/g00520/impl"
)

// relation is what two coalitions have to do with each other.
type relation struct {
	isSubset       bool
	union, overlap int
}

// relations has the relation of every two coalitions, by their letters.
var relations = sync.OnceValue(func() *[32][32]relation {
	var list [32][32]relation
	for a := range 32 {
		for b := range 32 {
			r := relation{isSubset: true}
			for k := range 5 {
				inA, inB := isIn(a, k), isIn(b, k)
				if inA || inB {
					r.union += 1 << k
				}
				if inA && inB {
					r.overlap += 1 << k
				}
				r.isSubset = r.isSubset && (inB || !inA)
			}
			list[a][b] = r
		}
	}
	return &list
})

func isSubset(a, b int) bool { return relations()[a][b].isSubset }

func union(a, b int) int { return relations()[a][b].union }

func overlap(a, b int) int { return relations()[a][b].overlap }

// found is the complete result of a function that looks for a fault; the zero
// value is that of a game without one.
type found struct {
	a, b int
	ok   bool
}

func foundBy(a, b int, ok bool) found { return found{a, b, ok} }

func foundAt(a, b int) found { return found{a, b, true} }

// property is one of those of the document: its functions, and its definition.
type property struct {
	name     string
	fault    func(g impl.Game) (int, int, bool)
	holds    func(g impl.Game) bool
	violates func(v []int, a, b int) bool
	// repair returns a coalition, and the least value of it with which two
	// coalitions do not violate the property.
	repair func(v []int, a, b int) (int, int)
}

func monotone() property {
	return property{
		"Monotone", impl.MonotoneFault, impl.IsMonotone,
		func(v []int, a, b int) bool { return isSubset(a, b) && v[a] > v[b] },
		func(v []int, a, b int) (int, int) { return b, v[a] },
	}
}

func superadditive() property {
	return property{
		"Superadditive", impl.SuperadditiveFault, impl.IsSuperadditive,
		func(v []int, a, b int) bool { return overlap(a, b) == 0 && v[a]+v[b] > v[union(a, b)] },
		func(v []int, a, b int) (int, int) { return union(a, b), v[a] + v[b] },
	}
}

func convex() property {
	return property{
		"Convex", impl.ConvexFault, impl.IsConvex,
		func(v []int, a, b int) bool { return v[a]+v[b] > v[union(a, b)]+v[overlap(a, b)] },
		func(v []int, a, b int) (int, int) { return union(a, b), v[a] + v[b] - v[overlap(a, b)] },
	}
}

func properties() []property { return []property{monotone(), superadditive(), convex()} }

// faults lists the pairs that violate the property, in lexicographic order. It
// comes upon them in another one.
func (p property) faults(g impl.Game) [][2]int {
	var list [][2]int
	if !definedGame(g) {
		return nil
	}
	for b := len(g.Values) - 1; b >= 0; b-- {
		for a := len(g.Values) - 1; a >= 0; a-- {
			if p.violates(g.Values, a, b) {
				list = append(list, [2]int{a, b})
			}
		}
	}
	slices.SortFunc(list, func(x, y [2]int) int { return slices.Compare(x[:], y[:]) })
	return list
}

func (p property) defined(g impl.Game) found {
	if list := p.faults(g); len(list) > 0 {
		return foundAt(list[0][0], list[0][1])
	}
	return found{}
}

// want checks both functions, and that the definition, which other tests rely
// on, gives the same result.
func (p property) want(t *testing.T, g impl.Game, want found) {
	t.Helper()
	wantOfGame(t, p.name+"Fault", g, func(g impl.Game) found { return foundBy(p.fault(g)) }, want)
	wantOfGame(t, "Is"+p.name, g, p.holds, definedGame(g) && !want.ok)
	if defined := p.defined(g); defined != want {
		t.Errorf("the result of %sFault for %v is defined as %v, not as %v", p.name, g, defined, want)
	}
}

// wantOnly checks that these pairs, of which the first one comes first, and no
// others violate the property.
func (p property) wantOnly(t *testing.T, g impl.Game, pairs ...[2]int) {
	t.Helper()
	if list := p.faults(g); !slices.Equal(list, pairs) {
		t.Errorf("the faults of %v are %v, not %v", g, list, pairs)
	}
	p.want(t, g, foundAt(pairs[0][0], pairs[0][1]))
}

// wantDefined compares both functions with their definition, and returns the
// result.
func (p property) wantDefined(t *testing.T, g impl.Game) found {
	t.Helper()
	want := p.defined(g)
	p.want(t, g, want)
	return want
}

func wantNull(t *testing.T, g impl.Game, want ...int) {
	t.Helper()
	x, values := guardGame(g)
	got := listResults(-88).callTwice(t, "NullPlayers", guardedLists{values}, func() []int { return impl.NullPlayers(x) })
	for _, absent := range []bool{true, false} {
		if other := impl.NullPlayers(hollowGame(g, absent)); !slices.Equal(other, want) {
			got = other
		}
	}
	if !slices.Equal(got, want) {
		t.Errorf("NullPlayers(%v) = %v; want %v", g, got, want)
	}
}

// wantSymmetric checks both orders of the players.
func wantSymmetric(t *testing.T, g impl.Game, i, j int, want bool) {
	t.Helper()
	for range 2 {
		call := fmt.Sprintf("AreSymmetric %d, %d", i, j)
		wantOfGame(t, call, g, func(g impl.Game) bool { return impl.AreSymmetric(g, i, j) }, want)
		i, j = j, i
	}
}

// definedNull is the definition of NullPlayers.
func definedNull(g impl.Game) []int {
	var players []int
	for k := range 5 {
		isNull := definedGame(g) && k < g.Players
		for s := range g.Values {
			if isNull && !isIn(s, k) && g.Values[s] != g.Values[s+1<<k] {
				isNull = false
			}
		}
		if isNull {
			players = append(players, k)
		}
	}
	return players
}

// definedSymmetric is the definition of AreSymmetric, for players from 0 on.
func definedSymmetric(g impl.Game, i, j int) bool {
	if !definedGame(g) || i >= g.Players || j >= g.Players {
		return false
	}
	for s := range g.Values {
		if !isIn(s, i) && !isIn(s, j) && g.Values[s+1<<i] != g.Values[s+1<<j] {
			return false
		}
	}
	return true
}

// valuedBy gives each coalition but the empty one the value of a function.
func valuedBy(players int, value func(s int) int) impl.Game {
	g := flatGame(players, 0)
	for s := 1; s < len(g.Values); s++ {
		g.Values[s] = value(s)
	}
	return g
}

func TestPropertiesKnownGames(t *testing.T) {
	for _, c := range []struct {
		g                               impl.Game
		monotone, superadditive, convex found
	}{
		{game(1, 0), found{}, found{}, found{}},
		{game(1, 7), found{}, found{}, found{}},
		{game(1, -1), foundAt(0, 1), found{}, found{}},
		{game(2, 1, 2, 3), found{}, found{}, found{}},
		{game(2, 1, 2, 4), found{}, found{}, found{}},
		{game(2, 1, 2, 2), found{}, foundAt(1, 2), foundAt(1, 2)},
		{game(2, 3, 2, 4), found{}, foundAt(1, 2), foundAt(1, 2)},
		{game(2, 5, 0, 4), foundAt(1, 3), foundAt(1, 2), foundAt(1, 2)},
		{game(2, 0, 5, 4), foundAt(2, 3), foundAt(1, 2), foundAt(1, 2)},
		{game(2, 5, -1, 4), foundAt(0, 2), found{}, found{}},
		{game(2, -1, -1, -2), foundAt(0, 1), found{}, found{}},
		{game(2, -1, -1, -3), foundAt(0, 1), foundAt(1, 2), foundAt(1, 2)},
		{game(2, 0, 0, -1), foundAt(0, 3), foundAt(1, 2), foundAt(1, 2)},
		{game(3, 0, 0, 6, 0, 6, 6, 6), found{}, found{}, foundAt(3, 5)},
		{game(3, 0, 0, 6, 0, 6, 6, 12), found{}, found{}, found{}},
		{game(3, 0, 0, 6, 0, 6, 6, 11), found{}, found{}, foundAt(3, 5)},
		{game(3, 0, 0, 6, 0, 0, 6, 6), found{}, found{}, foundAt(3, 6)},
		{game(3, 0, 0, 0, 0, 6, 6, 6), found{}, found{}, foundAt(5, 6)},
		{game(3, 1, 1, 2, 1, 2, 2, 3), found{}, found{}, found{}},
		{game(3, 1, 1, 2, 1, 2, 1, 3), found{}, foundAt(2, 4), foundAt(2, 4)},
		{game(3, 0, 0, 0, 0, 0, 1, 0), foundAt(6, 7), foundAt(1, 6), foundAt(1, 6)},
		{game(3, 0, 0, 0, 0, 1, 0, 0), foundAt(5, 7), foundAt(2, 5), foundAt(2, 5)},
		{game(3, 0, 0, 1, 0, 0, 0, 0), foundAt(3, 7), foundAt(3, 4), foundAt(3, 4)},
		{game(3, 5, 0, 5, 0, 5, 0, 4), foundAt(1, 7), foundAt(1, 6), foundAt(1, 6)},
		{game(3, 1, 2, 3, 4, 5, 6, 7), found{}, found{}, found{}},
	} {
		monotone().want(t, c.g, c.monotone)
		superadditive().want(t, c.g, c.superadditive)
		convex().want(t, c.g, c.convex)
	}
}

// TestMonotoneFaultOfOnePair has coalitions of which one has one player more.
// All other pairs of different sizes are further apart than these two.
func TestMonotoneFaultOfOnePair(t *testing.T) {
	for n := 1; n <= impl.MaxPlayers; n++ {
		for a := range 1 << n {
			for k := range n {
				if isIn(a, k) {
					continue
				}
				b, g := a+1<<k, valuedBy(n, func(s int) int { return 10 * impl.SizeOf(s) })
				if a > 0 {
					g.Values[a] += 5
				}
				monotone().want(t, g, found{})
				g = valued(g, b, g.Values[a])
				monotone().want(t, g, found{})
				monotone().wantOnly(t, valued(g, b, g.Values[a]-1), [2]int{a, b})
			}
		}
	}
}

// TestMonotoneFaultOfSubsetsFarBelow has two coalitions between which all others
// have no smaller value than the first one, whatever their sizes.
func TestMonotoneFaultOfSubsetsFarBelow(t *testing.T) {
	for n := 1; n <= impl.MaxPlayers; n++ {
		for a := range 1 << n {
			for b := range 1 << n {
				if a == b || !isSubset(a, b) {
					continue
				}
				g := valuedBy(n, func(s int) int {
					if a > 0 && isSubset(a, s) {
						return 10
					}
					return 0
				})
				monotone().want(t, g, found{})
				monotone().want(t, valued(g, b, g.Values[a]-1), foundAt(a, b))
				monotone().want(t, valued(g, b, -greatestValue), foundAt(0, b))
			}
		}
	}
}

// TestSuperadditiveFaultOfOnePair has two coalitions and their union whose
// values are far above those of all others.
func TestSuperadditiveFaultOfOnePair(t *testing.T) {
	for n := 2; n <= impl.MaxPlayers; n++ {
		for a := 1; a < 1<<n; a++ {
			for b := a + 1; b < 1<<n; b++ {
				if overlap(a, b) != 0 {
					continue
				}
				for _, value := range []int{0, -3, -50} {
					g := flatGame(n, -200)
					g.Values[a], g.Values[b] = -1, value
					superadditive().want(t, valued(g, union(a, b), value), found{})
					superadditive().want(t, valued(g, union(a, b), value-1), found{})
					superadditive().wantOnly(t, valued(g, union(a, b), value-2), [2]int{a, b}, [2]int{b, a})
				}
			}
		}
	}
}

// TestConvexFaultOfOnePair has coalitions that lack one player of their union
// each. The squares of the sizes leave 20 between the two sums, or more, and
// all other pairs have at most two of the four values that are changed.
func TestConvexFaultOfOnePair(t *testing.T) {
	for n := 2; n <= impl.MaxPlayers; n++ {
		for a := 1; a < 1<<n; a++ {
			for b := a + 1; b < 1<<n; b++ {
				if impl.SizeOf(a) != impl.SizeOf(b) || impl.SizeOf(union(a, b)) != impl.SizeOf(a)+1 {
					continue
				}
				g := valuedBy(n, func(s int) int { return 10 * impl.SizeOf(s) * impl.SizeOf(s) })
				convex().want(t, g, found{})
				g.Values[a] += 5
				g.Values[b] += 5
				if overlap(a, b) > 0 {
					g.Values[overlap(a, b)] -= 5
					g.Values[union(a, b)] -= 5
				} else {
					g.Values[union(a, b)] -= 10
				}
				convex().want(t, g, found{})
				convex().wantOnly(t, valued(g, a, g.Values[a]+1), [2]int{a, b}, [2]int{b, a})
				convex().wantOnly(t, valued(g, b, g.Values[b]+1), [2]int{a, b}, [2]int{b, a})
				convex().wantOnly(t, valued(g, union(a, b), g.Values[union(a, b)]-1), [2]int{a, b}, [2]int{b, a})
				if overlap(a, b) > 0 {
					convex().wantOnly(t, valued(g, overlap(a, b), g.Values[overlap(a, b)]-1), [2]int{a, b}, [2]int{b, a})
				}
			}
		}
	}
}

// TestPairsOfOneCoalitionAreNoFaults examines games of one player: there are
// only pairs of the same coalition, and of the empty one and another.
func TestPairsOfOneCoalitionAreNoFaults(t *testing.T) {
	for value := -greatestValue; value <= greatestValue; value++ {
		g, want := game(1, value), found{}
		superadditive().want(t, g, want)
		convex().want(t, g, want)
		if value < 0 {
			want = foundAt(0, 1)
		}
		monotone().want(t, g, want)
	}
}

// TestPairsWithTheEmptyCoalition has negative values: the empty coalition is
// worth more than the others, but changes no sum.
func TestPairsWithTheEmptyCoalition(t *testing.T) {
	for n := 1; n <= impl.MaxPlayers; n++ {
		for _, value := range []int{-1, -7, -greatestValue} {
			superadditive().want(t, flatGame(n, value), found{})
			convex().want(t, flatGame(n, value), found{})
			monotone().want(t, flatGame(n, value), foundAt(0, 1))
			for s := 1; s < 1<<n; s++ {
				monotone().want(t, valued(flatGame(n, 0), s, value), foundAt(0, s))
			}
			if n > 1 {
				monotone().want(t, valued(flatGame(n, value), 1, 0), foundAt(0, 2))
			}
		}
	}
}

func TestPropertiesAtTheLimits(t *testing.T) {
	for n := 2; n <= impl.MaxPlayers; n++ {
		for _, value := range []int{1, 250, greatestValue} {
			g := flatGame(n, value)
			monotone().want(t, g, found{})
			superadditive().want(t, g, foundAt(1, 2))
			convex().want(t, g, foundAt(1, 2))
		}
		for _, p := range properties() {
			p.want(t, flatGame(n, 0), found{})
			for s := 1; s < 1<<n; s++ {
				p.wantDefined(t, valued(flatGame(n, -greatestValue), s, greatestValue))
				p.wantDefined(t, valued(flatGame(n, greatestValue), s, -greatestValue))
				p.wantDefined(t, valued(flatGame(n, 0), s, greatestValue))
				p.wantDefined(t, valued(flatGame(n, 0), s, -greatestValue))
			}
			p.want(t, valued(flatGame(n, 0), 1<<n-1, greatestValue), found{})
		}
	}
	superadditive().want(t, game(2, 500, -500, 0), found{})
	superadditive().want(t, game(2, 500, -500, -1), foundAt(1, 2))
	superadditive().want(t, game(2, -500, 500, -500), foundAt(1, 2))
	superadditive().want(t, game(2, 250, 250, 500), found{})
	superadditive().want(t, game(2, 250, 251, 500), foundAt(1, 2))
	superadditive().want(t, game(2, 500, 500, -500), foundAt(1, 2))
	superadditive().want(t, game(2, -500, -500, -500), found{})
	convex().want(t, game(3, 500, -500, 0, 0, 500, -500, 0), found{})
	convex().want(t, game(3, 500, -500, 0, 0, 500, -500, -1), foundAt(1, 6))
	convex().want(t, game(3, 500, -500, 1, 0, 500, -500, 0), foundAt(3, 4))
	convex().want(t, game(3, 499, -500, 0, 0, 500, -500, 0), foundAt(3, 5))
	monotone().want(t, game(2, 500, 500, 500), found{})
	monotone().want(t, game(2, 500, 499, 499), foundAt(1, 3))
	monotone().want(t, game(2, 0, 500, -500), foundAt(0, 3))
	monotone().want(t, game(2, 0, 500, 499), foundAt(2, 3))
}

// repaired repairs the first fault of a game until there is none, checks the
// game after each repair, and after all but the last one of it, and returns the
// number of repairs.
func (p property) repaired(t *testing.T, g impl.Game) int {
	t.Helper()
	for count := 0; ; count++ {
		first := p.wantDefined(t, g)
		if !first.ok {
			return count
		}
		s, least := p.repair(g.Values, first.a, first.b)
		if !isGameNumber(least) {
			return count
		}
		almost := valued(g, s, least-1)
		g = valued(g, s, least)
		if !p.violates(almost.Values, first.a, first.b) || p.violates(g.Values, first.a, first.b) {
			t.Errorf("%v is not repaired in %v", first, g)
			return count
		}
		p.wantDefined(t, almost)
	}
}

// TestFaultsOneAfterTheOther has games with many faults, which are repaired.
func TestFaultsOneAfterTheOther(t *testing.T) {
	d := newDrawn()
	for _, p := range properties() {
		count := 0
		for n := 2; n <= impl.MaxPlayers; n++ {
			count += p.repaired(t, valuedBy(n, func(s int) int { return 1 }))
			count += p.repaired(t, valuedBy(n, func(s int) int { return -s }))
			count += p.repaired(t, valuedBy(n, func(s int) int { return 200 - 10*impl.SizeOf(s) }))
			for range 12 {
				count += p.repaired(t, d.drawnGame(n, 20))
			}
		}
		if count < 300 {
			t.Errorf("%s: there are %d repairs", p.name, count)
		}
	}
}

// wantEverything compares all functions with their definitions.
func wantEverything(t *testing.T, g impl.Game) {
	t.Helper()
	for _, p := range properties() {
		p.wantDefined(t, g)
	}
	wantNull(t, g, definedNull(g)...)
	for i := range 5 {
		for j := range i + 1 {
			wantSymmetric(t, g, i, j, definedSymmetric(g, i, j))
		}
	}
}

// gamesOver lists all games with values of a list.
func gamesOver(players int, values ...int) []impl.Game {
	lists := [][]int{nil}
	for range 1<<players - 1 {
		var longer [][]int
		for _, list := range lists {
			for _, value := range values {
				longer = append(longer, append(slices.Clone(list), value))
			}
		}
		lists = longer
	}
	var games []impl.Game
	for _, list := range lists {
		games = append(games, game(players, list...))
	}
	return games
}

func TestPropertiesOfAllSmallGames(t *testing.T) {
	for _, g := range slices.Concat(gamesOver(1, -1, 0, 1), gamesOver(2, -3, -2, -1, 0, 1, 2, 3), gamesOver(3, 0, 1)) {
		wantEverything(t, g)
	}
}

// TestFaultsOfAllGamesOfThreePlayers has games in which every pair that can be
// the first one is.
func TestFaultsOfAllGamesOfThreePlayers(t *testing.T) {
	games := slices.Concat(gamesOver(3, -1, 0, 1), gamesOver(3, 0, 1, 2))
	for _, p := range properties() {
		firsts := map[found]int{}
		for _, g := range games {
			firsts[p.wantDefined(t, g)]++
		}
		for a := range 8 {
			for b := range 8 {
				isPossible := a < b && isSubset(a, b)
				if p.name != "Monotone" {
					isPossible = a < b && !isSubset(a, b) && (p.name == "Convex" || overlap(a, b) == 0)
				}
				if isPossible != (firsts[foundAt(a, b)] > 0) {
					t.Errorf("%sFault returns %d, %d %d times", p.name, a, b, firsts[foundAt(a, b)])
				}
			}
		}
		if firsts[found{}] < 50 {
			t.Errorf("%sFault finds nothing %d times", p.name, firsts[found{}])
		}
	}
}

// convexGame draws a convex game: the coalitions of at least two players have
// dividends that are not less than 0.
func (d drawn) convexGame(players, most int) impl.Game {
	dividends := valuedBy(players, func(s int) int {
		if impl.SizeOf(s) == 1 {
			return d.between(-most, most)
		}
		return max(0, d.between(-most, most))
	})
	return valuedBy(players, func(s int) int {
		sum := 0
		for part, dividend := range dividends.Values {
			if isSubset(part, s) {
				sum += dividend
			}
		}
		return sum
	})
}

// nearGame draws a game that is convex but for one value, which is changed by
// one or two, or by nothing.
func (d drawn) nearGame(players, most int) impl.Game {
	g := d.convexGame(players, most)
	s := d.between(1, 1<<players-1)
	return valued(g, s, g.Values[s]+d.between(-2, 2))
}

func TestPropertiesOfDrawnGames(t *testing.T) {
	d := newDrawn()
	held, violated := map[string]int{}, map[string]int{}
	for n := 1; n <= impl.MaxPlayers; n++ {
		for range 60 {
			games := []impl.Game{
				d.convexGame(n, 3), d.convexGame(n, 12), d.nearGame(n, 1), d.nearGame(n, 3), d.sparseGame(n, 1),
				d.drawnGame(n, 1), d.drawnGame(n, 9), d.drawnGame(n, greatestValue), d.symmetricGame(n),
			}
			for _, g := range games {
				wantEverything(t, g)
				for _, p := range properties() {
					if p.defined(g).ok {
						violated[p.name]++
					} else {
						held[p.name]++
					}
				}
			}
		}
	}
	for _, p := range properties() {
		if held[p.name] < 300 || violated[p.name] < 300 {
			t.Errorf("%d games are %s, and %d are not", held[p.name], p.name, violated[p.name])
		}
	}
}

// symmetricGame draws a game in which the value depends on the size alone, but
// for one coalition.
func (d drawn) symmetricGame(players int) impl.Game {
	values := d.ints(players+1, 0, 20)
	slices.Sort(values)
	g := valuedBy(players, func(s int) int { return values[impl.SizeOf(s)] })
	return valued(g, d.between(1, 1<<players-1), d.between(0, 20))
}

// TestAConvexGameIsSuperadditive examines promise 10 with the results of the
// functions alone.
func TestAConvexGameIsSuperadditive(t *testing.T) {
	d, both, one, neither := newDrawn(), 0, 0, 0
	games := slices.Concat(gamesOver(2, -2, -1, 0, 1, 2), gamesOver(3, -1, 0, 1), gamesOver(3, 0, 1, 3))
	for n := 1; n <= impl.MaxPlayers; n++ {
		games = append(games, flatGame(n, 0), flatGame(n, -greatestValue), flatGame(n, greatestValue))
		for range 150 {
			g := d.convexGame(n, 9)
			if !impl.IsConvex(g) || !impl.IsSuperadditive(g) {
				t.Errorf("%v is not convex, or not superadditive", g)
			}
			games = append(games, g, d.nearGame(n, 2), d.nearGame(n, 9), d.drawnGame(n, 4))
		}
	}
	for _, g := range games {
		isConvex, isSuperadditive := impl.IsConvex(g), impl.IsSuperadditive(g)
		if isConvex && isSuperadditive {
			both++
		} else if isSuperadditive {
			one++
		} else {
			neither++
		}
		if isConvex && !isSuperadditive {
			t.Errorf("%v is convex, but not superadditive", g)
		}
		if a, b, bad := impl.SuperadditiveFault(g); bad {
			if first, second, also := impl.ConvexFault(g); !also || first > a || first == a && second > b {
				t.Errorf("ConvexFault(%v) = %d, %d, %t, although %d and %d violate it", g, first, second, also, a, b)
			}
		}
	}
	if both < 500 || one < 100 || neither < 500 {
		t.Errorf("%d games are convex, %d superadditive alone, and %d neither", both, one, neither)
	}
}

// TestPropertiesOfSumsAndParts examines what follows from the definitions.
func TestPropertiesOfSumsAndParts(t *testing.T) {
	d := newDrawn()
	for n := 1; n <= impl.MaxPlayers; n++ {
		for range 60 {
			a, b := d.convexGame(n, 6), d.convexGame(n, 6)
			sum, ok := impl.AddGames(a, b)
			if !ok || !impl.IsConvex(sum) || !impl.IsSuperadditive(sum) {
				t.Errorf("the sum of %v and %v is not convex: %v", a, b, sum)
			}
			// What players earn alone does not matter to sums of two values.
			g := d.nearGame(n, 3)
			scaled, ok := impl.ScaleGame(g, 2, d.ints(n, -9, 9))
			if !ok || impl.IsConvex(scaled) != impl.IsConvex(g) || impl.IsSuperadditive(scaled) != impl.IsSuperadditive(g) {
				t.Errorf("%v and %v do not have the same properties", g, scaled)
			}
			for s := 1; s < 1<<n; s++ {
				part, ok := impl.Restrict(a, s)
				if !ok || !impl.IsConvex(part) || impl.IsMonotone(a) && !impl.IsMonotone(part) {
					t.Errorf("the part of %v for %d is not convex: %v", a, s, part)
				}
			}
		}
	}
}

// TestPropertiesOfGamesThatAreNotValid has games that would have all properties,
// and games that would have faults.
func TestPropertiesOfGamesThatAreNotValid(t *testing.T) {
	for n := 1; n <= impl.MaxPlayers; n++ {
		sizes := valuedBy(n, func(s int) int { return impl.SizeOf(s) })
		games := []impl.Game{{}, {Players: n}, {Players: n, Values: []int{}}}
		for _, g := range []impl.Game{plainGame(n), flatGame(n, 0), flatGame(n, 5), sizes} {
			games = append(games, spoiledGames(g)...)
		}
		for _, g := range games {
			for _, p := range properties() {
				p.want(t, g, found{})
			}
			wantNull(t, g)
			for i := range n {
				wantSymmetric(t, g, i, i, false)
				wantSymmetric(t, g, 0, i, false)
			}
		}
	}
}

// TestPropertiesOfNobodyAndOfMany has numbers of players beyond the limits, and
// as many values as they would need.
func TestPropertiesOfNobodyAndOfMany(t *testing.T) {
	games := []impl.Game{{Players: 0, Values: []int{0}}, {Players: 0, Values: []int{5}}, {Players: -1, Values: []int{0}}}
	for players := 6; players <= 10; players++ {
		games = append(games, impl.Game{Players: players, Values: make([]int, 1<<players)})
		games = append(games, impl.Game{Players: players, Values: slices.Repeat([]int{0, 5}, 1<<(players-1))})
	}
	for _, players := range otherPlayers(7) {
		games = append(games, impl.Game{Players: players, Values: make([]int, 1<<7)})
	}
	for _, g := range games {
		for _, p := range properties() {
			if got := foundBy(p.fault(g)); got != (found{}) || p.holds(g) {
				t.Errorf("%s: %v for %d players and %d values", p.name, got, g.Players, len(g.Values))
			}
		}
		if list := impl.NullPlayers(g); len(list) > 0 || impl.AreSymmetric(g, 0, 0) || impl.AreSymmetric(g, 0, 1) {
			t.Errorf("%d players and %d values are a game with %v", g.Players, len(g.Values), list)
		}
	}
}

func TestNullPlayersKnownPlayers(t *testing.T) {
	wantNull(t, game(1, 0), 0)
	wantNull(t, game(1, 1))
	wantNull(t, game(1, -1))
	wantNull(t, game(2, 4, 0, 4), 1)
	wantNull(t, game(2, 0, 4, 4), 0)
	wantNull(t, game(2, 4, 4, 4))
	wantNull(t, game(2, 0, 0, 4))
	wantNull(t, game(2, 4, 0, 5))
	wantNull(t, game(2, 4, -4, 0))
	wantNull(t, game(2, 0, 0, 0), 0, 1)
	wantNull(t, game(3, 0, 0, 1, 0, 0, 0, 1), 2)
	wantNull(t, game(3, 0, 0, 0, 0, 1, 0, 1), 1)
	wantNull(t, game(3, 0, 0, 0, 0, 0, 1, 1), 0)
	wantNull(t, game(3, 0, 0, 0, 7, 7, 7, 7), 0, 1)
	wantNull(t, game(3, 0, 7, 7, 0, 0, 7, 7), 0, 2)
	wantNull(t, game(3, 1, 2, 3, 4, 5, 6, 7))
	wantNull(t, game(3, 0, 0, 1, 0, 1, 1, 1))
	wantNull(t, game(2, 500, 0, 500), 1)
	wantNull(t, game(2, 0, -500, -500), 0)
}

// TestNullPlayersOfEverySet has games in which nothing but the others matters,
// and then one coalition in which a null player matters.
func TestNullPlayersOfEverySet(t *testing.T) {
	for n := 1; n <= impl.MaxPlayers; n++ {
		for null := range 1 << n {
			others := 1<<n - 1 - null
			for _, value := range []func(s int) int{
				func(s int) int { return 9 * overlap(s, others) },
				func(s int) int { return -10 * impl.SizeOf(overlap(s, others)) * impl.SizeOf(overlap(s, others)) },
			} {
				g := valuedBy(n, value)
				wantNull(t, g, impl.MembersOf(null)...)
				for s := 1; s < 1<<n; s++ {
					for _, change := range []int{1, -1} {
						changed := valued(g, s, g.Values[s]+change)
						wantNull(t, changed, definedNull(changed)...)
						if list := definedNull(changed); n > 1 && others > 0 && len(list) > 0 {
							t.Errorf("%v still has %v", changed, list)
						}
					}
				}
			}
		}
	}
}

// TestNullPlayersWithOneEntryThatCounts has a player whose entry changes the
// value of one coalition alone.
func TestNullPlayersWithOneEntryThatCounts(t *testing.T) {
	for n := 2; n <= impl.MaxPlayers; n++ {
		for k := range n {
			g := valuedBy(n, func(s int) int { return 10 * overlap(s, 1<<n-1-1<<k) })
			wantNull(t, g, k)
			for s := 1; s < 1<<n; s++ {
				wantNull(t, valued(g, s, g.Values[s]+1))
				wantNull(t, valued(g, s, g.Values[s]-1))
			}
		}
	}
}

func TestNullPlayersOfGamesOfOneValue(t *testing.T) {
	everyone := []int{0, 1, 2, 3, 4}
	for n := 1; n <= impl.MaxPlayers; n++ {
		wantNull(t, flatGame(n, 0), everyone[:n]...)
		for _, value := range []int{1, -1, greatestValue, -greatestValue} {
			wantNull(t, flatGame(n, value))
			for s := 1; s < 1<<n; s++ {
				wantNull(t, valued(flatGame(n, 0), s, value))
			}
		}
	}
}

func TestAreSymmetricKnownPlayers(t *testing.T) {
	wantSymmetric(t, game(1, 5), 0, 0, true)
	wantSymmetric(t, game(1, 5), 0, 1, false)
	wantSymmetric(t, game(2, 3, 3, 4), 0, 1, true)
	wantSymmetric(t, game(2, 3, 2, 4), 0, 1, false)
	wantSymmetric(t, game(2, 3, 2, 4), 0, 0, true)
	wantSymmetric(t, game(2, 3, 2, 4), 1, 1, true)
	g := game(3, 1, 1, 5, 2, 6, 6, 9)
	wantSymmetric(t, g, 0, 1, true)
	wantSymmetric(t, g, 0, 2, false)
	wantSymmetric(t, g, 1, 2, false)
	wantSymmetric(t, g, 2, 2, true)
	wantSymmetric(t, valued(g, 5, 7), 0, 1, false)
	wantSymmetric(t, valued(g, 1, 2), 0, 1, false)
	wantSymmetric(t, valued(g, 3, 7), 0, 1, true)
	wantSymmetric(t, valued(g, 4, 7), 0, 1, true)
	wantSymmetric(t, valued(g, 7, 8), 0, 1, true)
	wantSymmetric(t, game(2, 500, -500, 0), 0, 1, false)
	wantSymmetric(t, game(2, -500, -500, 500), 0, 1, true)
}

// TestAreSymmetricOneCoalitionAlone changes one value of a game in which only
// sizes matter: the players of whom one alone belongs to this coalition differ.
func TestAreSymmetricOneCoalitionAlone(t *testing.T) {
	for n := 1; n <= impl.MaxPlayers; n++ {
		g := valuedBy(n, func(s int) int { return 7*impl.SizeOf(s) - 10 })
		for i := range n {
			for j := range n {
				wantSymmetric(t, g, i, j, true)
				wantSymmetric(t, flatGame(n, 0), i, j, true)
				wantSymmetric(t, plainGame(n), i, j, i == j)
				for s := 1; s < 1<<n; s++ {
					for _, change := range []int{1, -1, 300} {
						wantSymmetric(t, valued(g, s, g.Values[s]+change), i, j, isIn(s, i) == isIn(s, j))
					}
				}
			}
		}
	}
}

// TestAreSymmetricOfOtherPlayers has players that do not exist, beside one who
// does and beside each other.
func TestAreSymmetricOfOtherPlayers(t *testing.T) {
	for n := 1; n <= impl.MaxPlayers; n++ {
		others := slices.Concat(beyondPlaces(n), noCoalitions(), []int{n, n + 1, 5, 6, 31, 32, 63, 64, 65, 128, 256})
		for _, g := range []impl.Game{flatGame(n, 0), plainGame(n)} {
			for _, other := range others {
				if other >= 0 && other < n {
					continue
				}
				wantSymmetric(t, g, other, other, false)
				for i := range n {
					wantSymmetric(t, g, i, other, false)
				}
				wantSymmetric(t, g, other, -1, false)
				wantSymmetric(t, g, other, n, false)
			}
		}
	}
}

func TestSymmetryIsAnEquivalence(t *testing.T) {
	d, symmetric := newDrawn(), 0
	for n := 3; n <= impl.MaxPlayers; n++ {
		for range 100 {
			g := d.symmetricGame(n)
			for i := range n {
				for j := range n {
					for k := range n {
						both := impl.AreSymmetric(g, i, j) && impl.AreSymmetric(g, j, k)
						if both && !impl.AreSymmetric(g, i, k) {
							t.Errorf("%d is symmetric to %d, and %d to %d, in %v", i, j, j, k, g)
						}
						if both && i != j && j != k {
							symmetric++
						}
					}
				}
			}
		}
	}
	if symmetric < 300 {
		t.Errorf("there are %d chains of symmetric players", symmetric)
	}
}

// TestNullPlayersAreSymmetric examines what follows from the definitions.
func TestNullPlayersAreSymmetric(t *testing.T) {
	for _, g := range slices.Concat(gamesOver(2, -1, 0, 1), gamesOver(3, 0, 1), []impl.Game{flatGame(4, 0), flatGame(5, 0)}) {
		for _, i := range impl.NullPlayers(g) {
			if impl.ValueOf(g, 1<<i) != 0 {
				t.Errorf("player %d of %v earns something alone", i, g)
			}
			for j := range g.Players {
				if impl.AreSymmetric(g, i, j) != slices.Contains(impl.NullPlayers(g), j) {
					t.Errorf("players %d and %d of %v are symmetric, and one of them null, or neither", i, j, g)
				}
			}
		}
	}
}

func TestPropertiesKeepNoState(t *testing.T) {
	for range 3 {
		monotone().want(t, game(2, 5, 0, 4), foundAt(1, 3))
		monotone().want(t, game(2, 5, 0, 5), found{})
		superadditive().want(t, game(2, 3, 2, 4), foundAt(1, 2))
		superadditive().want(t, game(2, 3, 2), found{})
		convex().want(t, game(3, 0, 0, 6, 0, 6, 6, 6), foundAt(3, 5))
		convex().want(t, game(2, 1, 2, 5), found{})
		wantNull(t, game(2, 4, 0, 4), 1)
		wantNull(t, game(2, 4, 0, 501))
		wantSymmetric(t, game(2, 3, 3, 4), 0, 1, true)
		wantSymmetric(t, game(2, 3, 2, 4), 0, 1, false)
	}
}
