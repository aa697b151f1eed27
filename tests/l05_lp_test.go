package tests

import (
	"math"
	"math/rand"
	"slices"
	"testing"
	"unsafe"

	"loop.example/g00520/impl"
)

const (
	greatestRows   = 8
	greatestCols   = 70
	greatestFactor = 5000
)

func parts(list ...impl.Rat) []impl.Rat { return list }

func lp(a [][]int, b []int, c []impl.Rat) impl.LP { return impl.LP{A: a, B: b, C: c} }

func optimal(x, y []impl.Rat, value impl.Rat) impl.LpResult {
	return impl.LpResult{Status: 1, X: x, Y: y, Value: value}
}

func infeasible(y ...impl.Rat) impl.LpResult { return impl.LpResult{Status: 2, Y: y} }

func unbounded(x, ray []impl.Rat) impl.LpResult { return impl.LpResult{Status: 3, X: x, Ray: ray} }

// with returns list with one element replaced.
func with[E any](list []E, place int, e E) []E {
	list = slices.Clone(list)
	list[place] = e
	return list
}

func copyLP(p impl.LP) impl.LP {
	a := slices.Clone(p.A)
	for i := range a {
		a[i] = slices.Clone(a[i])
	}
	return impl.LP{A: a, B: slices.Clone(p.B), C: slices.Clone(p.C)}
}

// guardedRows are rows amid other ones, each of them amid other memory.
type guardedRows[E comparable] struct {
	given, whole, heads [][]E
	rows                []guarded[E]
}

// guardRows surrounds the rows with others of a length, so that a function that
// looks beyond their number would accept these.
func guardRows[E comparable](list [][]E, length int, around E) guardedRows[E] {
	var g guardedRows[E]
	other := slices.Repeat([]E{around}, length)
	for _, row := range slices.Concat([][]E{other, other}, list, [][]E{other, other, other}) {
		inner := guard(row, around)
		g.rows = append(g.rows, inner)
		g.whole = append(g.whole, inner.given)
	}
	g.given, g.heads = g.whole[2:2+len(list)], slices.Clone(g.whole)
	return g
}

func (g guardedRows[E]) wantUnchanged(t *testing.T, call string) {
	t.Helper()
	for i, row := range g.rows {
		row.wantUnchanged(t, call)
		now, then := g.whole[i], g.heads[i]
		if unsafe.SliceData(now) != unsafe.SliceData(then) || len(now) != len(then) || cap(now) != cap(then) {
			t.Errorf("%s replaced a row by %v", call, now)
		}
	}
}

func (g guardedRows[E]) scribble(with E) {
	for _, row := range g.rows {
		scribble(row.whole, with)
	}
}

type guardedLP struct {
	given impl.LP
	a     guardedRows[int]
	b     guarded[int]
	c     guarded[impl.Rat]
}

func guardLP(p impl.LP) guardedLP {
	g := guardedLP{a: guardRows(p.A, len(p.C), 77), b: guard(p.B, 77), c: guardRats(p.C)}
	g.given = impl.LP{A: g.a.given, B: g.b.given, C: g.c.given}
	return g
}

func (g guardedLP) wantUnchanged(t *testing.T, call string) {
	t.Helper()
	g.a.wantUnchanged(t, call)
	g.b.wantUnchanged(t, call)
	g.c.wantUnchanged(t, call)
}

func (g guardedLP) scribble() {
	g.a.scribble(-99)
	scribble(g.b.whole, -99)
	scribble(g.c.whole, pair(-99, 1))
}

type guardedResult struct {
	given     impl.LpResult
	x, y, ray guarded[impl.Rat]
}

func guardResult(r impl.LpResult) guardedResult {
	g := guardedResult{r, guardRats(r.X), guardRats(r.Y), guardRats(r.Ray)}
	g.given.X, g.given.Y, g.given.Ray = g.x.given, g.y.given, g.ray.given
	return g
}

func (g guardedResult) wantUnchanged(t *testing.T, call string) {
	t.Helper()
	g.x.wantUnchanged(t, call)
	g.y.wantUnchanged(t, call)
	g.ray.wantUnchanged(t, call)
}

// hollow returns list, or nil or an empty slice in place of one without elements.
func hollow[E any](list []E, absent bool) []E {
	if len(list) > 0 {
		return list
	}
	if absent {
		return nil
	}
	return []E{}
}

func hollowLP(p impl.LP, absent bool) impl.LP {
	p = copyLP(p)
	for i := range p.A {
		p.A[i] = hollow(p.A[i], absent)
	}
	return lp(hollow(p.A, absent), hollow(p.B, absent), hollow(p.C, absent))
}

func hollowResult(r impl.LpResult, absent bool) impl.LpResult {
	r.X, r.Y, r.Ray = hollow(r.X, absent), hollow(r.Y, absent), hollow(r.Ray, absent)
	return r
}

// wantValidLP checks IsValidLP with guarded arguments, and with nil and empty
// slices in place of those without elements.
func wantValidLP(t *testing.T, p impl.LP, want bool) {
	t.Helper()
	g := guardLP(p)
	got := impl.IsValidLP(g.given)
	if got != want || impl.IsValidLP(hollowLP(p, true)) != want || impl.IsValidLP(hollowLP(p, false)) != want {
		t.Errorf("IsValidLP(%v) = %t", p, got)
	}
	g.wantUnchanged(t, "IsValidLP")
}

// wantFeasible does the same for IsFeasible.
func wantFeasible(t *testing.T, p impl.LP, x []impl.Rat, want bool) {
	t.Helper()
	g, v := guardLP(p), guardRats(x)
	got := impl.IsFeasible(g.given, v.given)
	for _, absent := range []bool{true, false} {
		if impl.IsFeasible(hollowLP(p, absent), hollow(x, absent)) != want {
			got = !want
		}
	}
	if got != want {
		t.Errorf("IsFeasible(%v, %v) = %t", p, x, got)
	}
	g.wantUnchanged(t, "IsFeasible")
	v.wantUnchanged(t, "IsFeasible")
}

// wantCheck does the same for CheckLP.
func wantCheck(t *testing.T, p impl.LP, r impl.LpResult, want bool) {
	t.Helper()
	g, s := guardLP(p), guardResult(r)
	got := impl.CheckLP(g.given, s.given)
	for _, absent := range []bool{true, false} {
		if impl.CheckLP(hollowLP(p, absent), hollowResult(r, absent)) != want {
			got = !want
		}
	}
	if got != want {
		t.Errorf("CheckLP(%v, %v) = %t", p, r, got)
	}
	g.wantUnchanged(t, "CheckLP")
	s.wantUnchanged(t, "CheckLP")
}

// arguments are guarded, and can be changed as a whole.
type arguments interface {
	wantUnchanged(t *testing.T, call string)
	scribble()
}

// results is what it takes to examine results of one type.
type results[R any] struct {
	copied   func(r R) R
	scribble func(t *testing.T, call string, r R)
	same     func(a, b R) bool
}

func listResults[E comparable](with E) results[[]E] {
	change := func(t *testing.T, call string, list []E) { scribble(list, with) }
	return results[[]E]{slices.Clone[[]E], change, slices.Equal[[]E]}
}

// callTwice checks that two results of a function share no memory with its
// arguments or with each other.
func (s results[R]) callTwice(t *testing.T, name string, g arguments, call func() R) R {
	t.Helper()
	got, again := call(), call()
	kept := s.copied(got)
	s.scribble(t, name, got)
	g.wantUnchanged(t, name+", or a change of its result,")
	g.scribble()
	if !s.same(again, kept) {
		t.Errorf("%s returns %v, but %v again", name, kept, again)
	}
	return kept
}

func callColumnOf(t *testing.T, p impl.LP, j int) []int {
	t.Helper()
	g := guardLP(p)
	return listResults(-88).callTwice(t, "ColumnOf", g, func() []int { return impl.ColumnOf(g.given, j) })
}

func wantColumn(t *testing.T, p impl.LP, j int, want ...int) {
	t.Helper()
	if got := callColumnOf(t, p, j); !slices.Equal(got, want) {
		t.Errorf("ColumnOf(%v, %d) = %v; want %v", p, j, got, want)
	}
}

func isNumber(n int) bool { return n >= -greatestFactor && n <= greatestFactor }

// isPlainlyValidLP is the definition of a valid LP.
func isPlainlyValidLP(p impl.LP) bool {
	valid := len(p.C) <= greatestCols && len(p.A) <= greatestRows && len(p.A) == len(p.B)
	for _, row := range p.A {
		valid = valid && len(row) == len(p.C)
		for _, n := range row {
			valid = valid && isNumber(n)
		}
	}
	for _, n := range p.B {
		valid = valid && isNumber(n)
	}
	for _, r := range p.C {
		valid = valid && isPlainlyValid(r)
	}
	return valid
}

// definedSolution reports whether x is valid and at least 0, and A x = right.
func definedSolution(p impl.LP, x []impl.Rat, right []int) bool {
	if len(x) != len(p.C) {
		return false
	}
	for _, r := range x {
		if !isPlainlyValid(r) || r.Num < 0 {
			return false
		}
	}
	for i, row := range p.A {
		if got, ok := definedDot(wholes(row...), x); !ok || got != pair(right[i], 1) {
			return false
		}
	}
	return true
}

// definedBounds reports whether the product of y and each column is at most the
// limit, compared in integers of any size.
func definedBounds(p impl.LP, y, limits []impl.Rat) bool {
	for j, limit := range limits {
		var column []impl.Rat
		for _, row := range p.A {
			column = append(column, pair(row[j], 1))
		}
		got, ok := definedDot(y, column)
		if !ok || product(got.Num, limit.Den).Cmp(product(limit.Num, got.Den)) > 0 {
			return false
		}
	}
	return len(y) == len(p.B)
}

// definedCheck is the definition of CheckLP.
func definedCheck(p impl.LP, r impl.LpResult) bool {
	if !isPlainlyValidLP(p) {
		return false
	}
	zeros := make([]int, len(p.B))
	switch r.Status {
	case 1:
		if !definedSolution(p, r.X, p.B) || !definedBounds(p, r.Y, p.C) {
			return false
		}
		cost, ok := definedDot(p.C, r.X)
		bound, okBound := definedDot(r.Y, wholes(p.B...))
		return ok && okBound && cost == bound && bound == r.Value
	case 2:
		bound, ok := definedDot(r.Y, wholes(p.B...))
		return ok && bound.Num > 0 && definedBounds(p, r.Y, slices.Repeat(wholes(0), len(p.C)))
	case 3:
		slope, ok := definedDot(p.C, r.Ray)
		return ok && slope.Num < 0 && definedSolution(p, r.X, p.B) && definedSolution(p, r.Ray, zeros)
	}
	return false
}

func TestLpConstants(t *testing.T) {
	if impl.MaxLpRows != greatestRows || impl.MaxLpCols != greatestCols || impl.MaxLpNumber != greatestFactor {
		t.Errorf("the limits are %d, %d, %d", impl.MaxLpRows, impl.MaxLpCols, impl.MaxLpNumber)
	}
	codes := []int{impl.LpBad, impl.LpOptimal, impl.LpInfeasible, impl.LpUnbounded, impl.LpLimit}
	if !slices.Equal(codes, []int{0, 1, 2, 3, 4}) {
		t.Errorf("the codes are %v", codes)
	}
}

// plainLP has a different number in each place.
func plainLP(rows, cols int) impl.LP {
	var p impl.LP
	for i := range rows {
		var row []int
		for j := range cols {
			row = append(row, 100*i+j)
		}
		p.A = append(p.A, row)
		p.B = append(p.B, -i-1)
	}
	for j := range cols {
		p.C = append(p.C, pair(-1, j+1))
	}
	return p
}

func TestIsValidLPSizes(t *testing.T) {
	for rows := range 18 {
		for _, cols := range []int{0, 1, 2, 3, 8, 9, 68, 69, 70, 71, 72, 140, 1000} {
			wantValidLP(t, plainLP(rows, cols), rows <= greatestRows && cols <= greatestCols)
		}
	}
	wantValidLP(t, impl.LP{}, true)
}

func TestIsValidLPNumbers(t *testing.T) {
	for _, size := range [][2]int{{1, 1}, {2, 3}, {3, 1}, {greatestRows, greatestCols}} {
		for _, n := range []int{
			0, 1, -1, greatestFactor - 1, greatestFactor, -greatestFactor, greatestFactor + 1, -greatestFactor - 1,
			greatestPart, -greatestPart, 1 << 32, -1 << 32, math.MaxInt, math.MinInt, math.MinInt + 1,
		} {
			for i := range size[0] {
				p := plainLP(size[0], size[1])
				p.B[i] = n
				wantValidLP(t, p, isNumber(n))
				for _, j := range []int{0, size[1] / 2, size[1] - 1} {
					p := plainLP(size[0], size[1])
					p.A[i][j] = n
					wantValidLP(t, p, isNumber(n))
				}
			}
		}
	}
	all := plainLP(greatestRows, greatestCols)
	for i := range all.A {
		all.A[i] = slices.Repeat([]int{greatestFactor, -greatestFactor}, greatestCols/2)
		all.B[i] = greatestFactor
	}
	wantValidLP(t, all, true)
}

// misshapenLPs differ from a valid LP in the length of one slice.
func misshapenLPs(rows, cols int) []impl.LP {
	var list []impl.LP
	add := func(change func(p *impl.LP)) {
		p := plainLP(rows, cols)
		change(&p)
		list = append(list, p)
	}
	for i := range rows {
		add(func(p *impl.LP) { p.A[i] = append(p.A[i], 1) })
		add(func(p *impl.LP) { p.A[i] = p.A[i][:cols-1] })
		add(func(p *impl.LP) { p.A[i] = nil })
		add(func(p *impl.LP) { p.A[i] = []int{} })
	}
	add(func(p *impl.LP) { p.A = append(p.A, p.A[0]) })
	add(func(p *impl.LP) { p.A = p.A[:rows-1] })
	add(func(p *impl.LP) { p.A = nil })
	add(func(p *impl.LP) { p.B = append(p.B, 1) })
	add(func(p *impl.LP) { p.B = p.B[:rows-1] })
	add(func(p *impl.LP) { p.B = nil })
	add(func(p *impl.LP) { p.C = append(p.C, pair(1, 1)) })
	add(func(p *impl.LP) { p.C = p.C[:cols-1] })
	add(func(p *impl.LP) { p.C = nil })
	return list
}

func TestMisshapenLPsAreNotValid(t *testing.T) {
	for _, size := range [][2]int{{1, 1}, {1, 2}, {2, 1}, {3, 3}, {7, 69}, {greatestRows, greatestCols}} {
		for _, p := range misshapenLPs(size[0], size[1]) {
			wantValidLP(t, p, false)
			for j := -1; j <= size[1]; j++ {
				wantColumn(t, p, j)
			}
			for _, length := range []int{0, size[1] - 1, size[1], size[1] + 1} {
				wantFeasible(t, p, slices.Repeat(wholes(0), length), false)
			}
		}
	}
	// Rows of different lengths that have as many elements together.
	wantValidLP(t, lp([][]int{{1}, {1, 2, 3}}, []int{1, 1}, wholes(1, 1)), false)
}

func TestIsValidLPCosts(t *testing.T) {
	for _, r := range slices.Concat(smallRats(), greatRats()) {
		wantValidLP(t, lp([][]int{{1, 2}}, []int{3}, parts(r, r)), true)
	}
	for _, bad := range badRats() {
		for rows := range 3 {
			for cols := 1; cols <= 3; cols++ {
				for j := range cols {
					p := plainLP(rows, cols)
					p.C[j] = bad
					wantValidLP(t, p, false)
					wantColumn(t, p, 0)
					wantFeasible(t, p, slices.Repeat(wholes(0), cols), false)
				}
			}
		}
	}
}

// zeroLP has the element n in the last column of each row, and 0 elsewhere.
func zeroLP(rows, cols, n int) impl.LP {
	p := impl.LP{C: slices.Repeat(wholes(0), cols)}
	for range rows {
		p.A = append(p.A, with(make([]int, cols), cols-1, n))
		p.B = append(p.B, 0)
	}
	return p
}

// TestOtherFunctionsRejectLPsBeyondTheLimits examines LPs that exceed one
// limit, though everything else that a function demands holds.
func TestOtherFunctionsRejectLPsBeyondTheLimits(t *testing.T) {
	for _, c := range []struct {
		rows, cols, n int
		ok            bool
	}{
		{greatestRows, greatestCols, greatestFactor, true},
		{greatestRows, greatestCols, -greatestFactor, true},
		{greatestRows + 1, greatestCols, 0, false},
		{greatestRows, greatestCols + 1, 0, false},
		{greatestRows, greatestCols, greatestFactor + 1, false},
		{greatestRows, greatestCols, -greatestFactor - 1, false},
	} {
		p := zeroLP(c.rows, c.cols, c.n)
		wantFeasible(t, p, p.C, c.ok)
		wantCheck(t, p, optimal(p.C, slices.Repeat(wholes(0), c.rows), pair(0, 1)), c.ok)
		if got := callColumnOf(t, p, c.cols-1); !c.ok && len(got) != 0 || c.ok && !slices.Equal(got, slices.Repeat([]int{c.n}, c.rows)) {
			t.Errorf("the last column of %d rows and %d columns with %d is %v", c.rows, c.cols, c.n, got)
		}
		falling := copyLP(p)
		falling.C[0] = pair(-1, 1)
		wantCheck(t, falling, unbounded(p.C, with(p.C, 0, pair(1, 1))), c.ok)
		p.A[0], p.B[0] = make([]int, c.cols), -1
		wantCheck(t, p, infeasible(with(slices.Repeat(wholes(0), c.rows), 0, pair(-1, 1))...), c.ok)
	}
}

func TestIsFeasibleKnownVectors(t *testing.T) {
	p := lp([][]int{{1, 1, 1}, {2, 0, -1}}, []int{4, -1}, wholes(1, 2, 3))
	one := lp([][]int{{1, 1}}, []int{1}, wholes(0, 0))
	for _, c := range []struct {
		p    impl.LP
		x    []impl.Rat
		want bool
	}{
		{p, wholes(0, 3, 1), true},
		{p, wholes(1, 0, 3), true},
		{p, parts(pair(1, 2), pair(3, 2), pair(2, 1)), true},
		// Each of these violates one row alone, by more or less than 1.
		{p, wholes(0, 4, 1), false},
		{p, wholes(0, 2, 1), false},
		{p, wholes(0, 4, 0), false},
		{p, wholes(0, 2, 2), false},
		{p, parts(pair(0, 1), pair(greatestPart-1, greatestPart), pair(1, 1)), false},
		{p, wholes(0, 0, 0), false},
		// These solve the rows, but have a negative element.
		{p, wholes(-1, 6, -1), false},
		{p, wholes(2, -3, 5), false},
		{p, parts(pair(-1, 2), pair(9, 2), pair(0, 1)), false},
		{one, wholes(-1, 2), false},
		{one, wholes(2, -1), false},
		{one, parts(pair(-1, greatestPart/2), pair(greatestPart/2+1, greatestPart/2)), false},
		{one, parts(pair(1, 3), pair(2, 3)), true},
		// These have another length.
		{p, nil, false},
		{p, wholes(0, 3), false},
		{p, wholes(0, 3, 1, 0), false},
		{one, wholes(1), false},
		{one, wholes(1, 0, 0), false},
		{lp([][]int{{0, 0}}, []int{0}, wholes(0, 0)), wholes(7), false},
		{lp([][]int{{0, 0}}, []int{0}, wholes(0, 0)), wholes(7, 8), true},
		// Without rows, every vector of the length of C solves them.
		{lp(nil, nil, wholes(5, 6)), wholes(0, greatestPart), true},
		{lp(nil, nil, wholes(5, 6)), wholes(0, -1), false},
		{lp(nil, nil, wholes(5, 6)), wholes(-1, 0), false},
		{lp(nil, nil, wholes(5, 6)), wholes(0), false},
		{lp(nil, nil, wholes(5, 6)), wholes(0, 0, 0), false},
		{lp(nil, nil, wholes(5, 6)), nil, false},
		{impl.LP{}, nil, true},
		{impl.LP{}, wholes(0), false},
		// Without columns, every row is 0.
		{lp([][]int{{}, {}}, []int{0, 0}, nil), nil, true},
		{lp([][]int{{}, {}}, []int{0, 1}, nil), nil, false},
		{lp([][]int{{}, {}}, []int{-1, 0}, nil), nil, false},
		{lp([][]int{{}, {}}, []int{0, 0}, nil), wholes(0), false},
	} {
		wantFeasible(t, c.p, c.x, c.want)
	}
}

// TestIsFeasibleWhereProductsDoNotFit examines rows whose sum is right, but
// only some of which fit, added from the first element on.
func TestIsFeasibleWhereProductsDoNotFit(t *testing.T) {
	x := wholes(greatestPart, 1, greatestPart, 1)
	for _, c := range []struct {
		row  []int
		want bool
	}{
		{[]int{1, -1, -1, 1}, true},
		{[]int{-1, 1, 1, -1}, true},
		{[]int{1, 1, -1, -1}, false},
		{[]int{-1, -1, 1, 1}, false},
		{[]int{2, 0, -2, 0}, false},
		{[]int{5000, 1, -5000, -1}, false},
	} {
		p := lp([][]int{c.row}, []int{0}, wholes(0, 0, 0, 0))
		wantFeasible(t, p, x, c.want)
		p = lp([][]int{make([]int, 4), c.row, make([]int, 4)}, []int{0, 0, 0}, wholes(0, 0, 0, 0))
		wantFeasible(t, p, x, c.want)
	}
	// A product that does not fit is not the 0 of a row without elements.
	wantFeasible(t, lp([][]int{{5000}}, []int{0}, wholes(0)), wholes(greatestPart), false)
	// The sum of 1/3 and the least fraction does not fit.
	third, tiny := pair(1, 3), pair(1, greatestPart)
	wantFeasible(t, lp([][]int{{1, -1, 1, -1}}, []int{0}, wholes(0, 0, 0, 0)), parts(third, third, tiny, tiny), true)
	wantFeasible(t, lp([][]int{{1, 1, -1, -1}}, []int{0}, wholes(0, 0, 0, 0)), parts(third, tiny, third, tiny), false)
}

func TestIsFeasibleRejectsBadFractions(t *testing.T) {
	for _, bad := range badRats() {
		for length := 1; length <= 3; length++ {
			zeros := slices.Repeat(wholes(0), length)
			for place := range length {
				x := with(zeros, place, bad)
				wantFeasible(t, lp(nil, nil, zeros), x, false)
				wantFeasible(t, lp([][]int{make([]int, length)}, []int{0}, zeros), x, false)
				row := with(make([]int, length), place, 1)
				for _, n := range []int{0, 1, 2, -1} {
					wantFeasible(t, lp([][]int{row}, []int{n}, zeros), x, false)
				}
			}
		}
	}
}

func TestColumnOfKnownColumns(t *testing.T) {
	p := lp([][]int{{1, 2, 3}, {4, 5, 6}}, []int{7, 8}, wholes(9, 10, 11))
	wantColumn(t, p, 0, 1, 4)
	wantColumn(t, p, 1, 2, 5)
	wantColumn(t, p, 2, 3, 6)
	all := plainLP(greatestRows, greatestCols)
	for j := range greatestCols {
		var want []int
		for i := range greatestRows {
			want = append(want, 100*i+j)
		}
		wantColumn(t, all, j, want...)
	}
	for _, p := range []impl.LP{{}, lp(nil, nil, wholes(1, 2)), lp([][]int{{}, {}}, []int{1, 2}, nil)} {
		for j := -2; j <= 3; j++ {
			wantColumn(t, p, j)
		}
	}
}

func TestColumnOfOtherColumns(t *testing.T) {
	for _, p := range []impl.LP{plainLP(1, 1), plainLP(2, 3), plainLP(3, 2), plainLP(greatestRows, greatestCols), plainLP(2, 0)} {
		for _, j := range []int{
			-1, -2, -3, -70, -1 << 32, math.MinInt, math.MinInt + 1,
			len(p.C), len(p.C) + 1, 71, 77, 100, 1 << 32, 1<<32 + 1, 1 << 62, math.MaxInt,
		} {
			if got := callColumnOf(t, p, j); len(got) != 0 {
				t.Errorf("ColumnOf(%v, %d) = %v", p, j, got)
			}
			if got := impl.ColumnOf(p, j); got != nil {
				t.Errorf("ColumnOf(%v, %d) is not nil", p, j)
			}
		}
	}
}

// saleLP has the only optimal vector 3, 1, 0, 0 and the value -5.
func saleLP() impl.LP {
	return lp([][]int{{1, 1, 1, 0}, {1, 3, 0, 1}}, []int{4, 6}, wholes(-1, -2, 0, 0))
}

func saleResult() impl.LpResult {
	return optimal(wholes(3, 1, 0, 0), parts(pair(-1, 2), pair(-1, 2)), pair(-5, 1))
}

// conflictLP demands three different sums of the same elements.
func conflictLP() impl.LP {
	return lp([][]int{{1, 0, 2}, {1, 0, 2}, {0, 1, 1}}, []int{3, 4, 5}, wholes(1, 1, 1))
}

func conflictResult() impl.LpResult { return infeasible(wholes(-1, 1, 0)...) }

// endlessLP has vectors of any cost below 0.
func endlessLP() impl.LP {
	return lp([][]int{{1, -1, 0}, {0, 1, -1}}, []int{1, 2}, wholes(-1, 0, 0))
}

func endlessResult() impl.LpResult { return unbounded(wholes(3, 2, 0), wholes(1, 1, 1)) }

func TestCheckLPKnownResults(t *testing.T) {
	wantCheck(t, saleLP(), saleResult(), true)
	wantCheck(t, conflictLP(), conflictResult(), true)
	wantCheck(t, endlessLP(), endlessResult(), true)
	wantCheck(t, lp([][]int{{1, 1, 1}}, []int{4}, wholes(-1, -2, 0)), optimal(wholes(0, 4, 0), wholes(-2), pair(-8, 1)), true)
	wantCheck(t, lp([][]int{{2}}, []int{1}, wholes(3)), optimal(parts(pair(1, 2)), parts(pair(3, 2)), pair(3, 2)), true)
	wantCheck(t, lp([][]int{{1, 1}}, []int{-1}, wholes(0, 0)), infeasible(wholes(-1)...), true)
	wantCheck(t, lp([][]int{{1, -1}}, []int{0}, wholes(-1, 0)), unbounded(wholes(0, 0), wholes(1, 1)), true)
}

// TestCheckLPWithoutRowsOrColumns examines the LPs that leave nothing to check
// in one place.
func TestCheckLPWithoutRowsOrColumns(t *testing.T) {
	zero := pair(0, 1)
	free := lp(nil, nil, wholes(0, 2))
	wantCheck(t, free, optimal(wholes(0, 0), nil, zero), true)
	wantCheck(t, free, optimal(wholes(7, 0), nil, zero), true)
	wantCheck(t, free, optimal(wholes(0, 7), nil, zero), false)
	wantCheck(t, free, optimal(wholes(0, 7), nil, pair(14, 1)), false)
	wantCheck(t, free, optimal(wholes(0, 0), wholes(0), zero), false)
	wantCheck(t, free, optimal(wholes(0), nil, zero), false)
	wantCheck(t, free, infeasible(), false)
	wantCheck(t, free, infeasible(wholes(1)...), false)
	wantCheck(t, free, unbounded(wholes(0, 0), wholes(1, 0)), false)
	falling := lp(nil, nil, wholes(0, -2))
	wantCheck(t, falling, unbounded(wholes(0, 0), wholes(0, 1)), true)
	wantCheck(t, falling, unbounded(wholes(0, 0), wholes(1, 0)), false)
	wantCheck(t, falling, unbounded(wholes(0, 0), nil), false)
	wantCheck(t, falling, unbounded(nil, wholes(0, 1)), false)
	wantCheck(t, falling, optimal(wholes(0, 0), nil, zero), false)

	rows := lp([][]int{{}, {}}, []int{0, 0}, nil)
	wantCheck(t, rows, optimal(nil, wholes(5, -6), zero), true)
	wantCheck(t, rows, optimal(nil, wholes(5, -6), pair(1, 1)), false)
	wantCheck(t, rows, optimal(nil, wholes(5), zero), false)
	wantCheck(t, rows, optimal(nil, nil, zero), false)
	wantCheck(t, rows, optimal(wholes(0), wholes(5, -6), zero), false)
	wantCheck(t, rows, infeasible(wholes(5, -6)...), false)
	wantCheck(t, rows, unbounded(nil, nil), false)
	uneven := lp([][]int{{}, {}}, []int{1, -1}, nil)
	wantCheck(t, uneven, infeasible(wholes(1, 0)...), true)
	wantCheck(t, uneven, infeasible(wholes(0, -1)...), true)
	wantCheck(t, uneven, infeasible(wholes(1, 1)...), false)
	wantCheck(t, uneven, infeasible(wholes(1)...), false)
	wantCheck(t, uneven, infeasible(wholes(1, 0, 0)...), false)
	wantCheck(t, uneven, optimal(nil, wholes(0, 0), zero), false)

	wantCheck(t, impl.LP{}, optimal(nil, nil, zero), true)
	wantCheck(t, impl.LP{}, optimal(nil, nil, impl.Rat{}), false)
	wantCheck(t, impl.LP{}, infeasible(), false)
	wantCheck(t, impl.LP{}, unbounded(nil, nil), false)
	wantCheck(t, impl.LP{}, impl.LpResult{}, false)
}

type proven struct {
	p impl.LP
	r impl.LpResult
}

// provenCases are LPs with a result that is accepted, one for each code.
func provenCases() map[int]proven {
	return map[int]proven{
		1: {saleLP(), saleResult()},
		2: {conflictLP(), conflictResult()},
		3: {endlessLP(), endlessResult()},
	}
}

// padded returns v with zeros up to a length, which is at most 4.
func padded(v []impl.Rat, length int) []impl.Rat {
	return append(slices.Clone(v), wholes(0, 0, 0, 0)[len(v):length]...)
}

func TestCheckLPRejectsOtherCodes(t *testing.T) {
	for code, c := range provenCases() {
		// The vectors that the code does not need have the right lengths as well.
		c.r.X, c.r.Y, c.r.Ray = padded(c.r.X, len(c.p.C)), padded(c.r.Y, len(c.p.B)), padded(c.r.Ray, len(c.p.C))
		for _, other := range []int{
			0, 1, 2, 3, 4, 5, 6, 7, 8, -1, -2, -3, 256 + code, code - 256, 1<<32 + code, -1<<32 + code,
			math.MaxInt, math.MinInt, math.MinInt + code,
		} {
			c.r.Status = other
			wantCheck(t, c.p, c.r, other == code)
		}
	}
}

// TestCheckLPExaminesOneCertificate checks that fields to which the code gives
// no meaning are not examined.
func TestCheckLPExaminesOneCertificate(t *testing.T) {
	for _, junk := range [][]impl.Rat{nil, wholes(1), wholes(-1, -1, -1, -1), slices.Repeat(parts(impl.Rat{}), 9)} {
		for _, value := range []impl.Rat{{}, pair(2, 4), pair(7, 1), pair(math.MinInt, -1)} {
			for _, pivots := range []int{0, 5, -1, math.MaxInt} {
				r := saleResult()
				r.Ray, r.Pivots = junk, pivots
				wantCheck(t, saleLP(), r, true)
				r = conflictResult()
				r.X, r.Ray, r.Value, r.Pivots = junk, junk, value, pivots
				wantCheck(t, conflictLP(), r, true)
				r = endlessResult()
				r.Y, r.Value, r.Pivots = junk, value, pivots
				wantCheck(t, endlessLP(), r, true)
			}
		}
	}
}

// TestCheckLPRejectsOtherLPs checks that no code is accepted for an LP that is
// not valid: each has one flaw in a place that the certificate does not use.
func TestCheckLPRejectsOtherLPs(t *testing.T) {
	for _, c := range provenCases() {
		rows, cols := len(c.p.A), len(c.p.C)
		check := func(change func(p *impl.LP), want bool) {
			p := copyLP(c.p)
			change(&p)
			wantCheck(t, p, c.r, want)
		}
		check(func(p *impl.LP) {}, true)
		for i := range rows {
			check(func(p *impl.LP) { p.A[i] = append(p.A[i], 0) }, false)
			check(func(p *impl.LP) { p.A[i] = p.A[i][:cols-1] }, false)
			check(func(p *impl.LP) { p.A[i] = nil }, false)
		}
		check(func(p *impl.LP) { p.A = append(p.A, make([]int, cols)) }, false)
		check(func(p *impl.LP) { p.A = p.A[:rows-1] }, false)
		check(func(p *impl.LP) { p.A = nil }, false)
		check(func(p *impl.LP) { p.B = append(p.B, 0) }, false)
		check(func(p *impl.LP) { p.B = p.B[:rows-1] }, false)
		check(func(p *impl.LP) { p.B = nil }, false)
		check(func(p *impl.LP) { p.C = append(p.C, pair(0, 1)) }, false)
		check(func(p *impl.LP) { p.C = p.C[:cols-1] }, false)
		check(func(p *impl.LP) { p.C = nil }, false)
		for _, bad := range badRats() {
			for j := range cols {
				check(func(p *impl.LP) { p.C[j] = bad }, false)
			}
		}
	}
	// The cost of a variable that is 0 could be as great as it wants.
	check := func(cost impl.Rat, want bool) {
		wantCheck(t, lp([][]int{{1, 0}}, []int{2}, parts(pair(1, 1), cost)), optimal(wholes(2, 0), wholes(1), pair(2, 1)), want)
	}
	check(pair(greatestPart, 1), true)
	check(pair(greatestPart+1, 1), false)
	check(pair(2, 2), false)
}

func TestCheckLPRejectsVectorsThatAreNotFeasible(t *testing.T) {
	half := pair(1, 2)
	for _, x := range [][]impl.Rat{
		nil, wholes(3, 1), wholes(3, 1, 0), wholes(3, 1, 0, 0, 0),
		// These have the cost -5 and violate one row alone.
		wholes(3, 1, 1, 0), wholes(3, 1, 0, 1),
		// These have the cost -5 and solve the rows, but have a negative element.
		parts(pair(2, 1), pair(3, 2), half, pair(-1, 2)),
		parts(pair(4, 1), half, pair(-1, 2), half),
		parts(pair(-1, 1), pair(3, 1), pair(2, 1), pair(-2, 1)),
		// Elements of these are not valid.
		parts(pair(3, 1), pair(1, 1), pair(0, 2), pair(0, 1)),
		parts(pair(3, 1), pair(1, 1), pair(0, 1), impl.Rat{}),
		parts(pair(6, 2), pair(1, 1), pair(0, 1), pair(0, 1)),
		parts(pair(-3, -1), pair(1, 1), pair(0, 1), pair(0, 1)),
	} {
		r := saleResult()
		r.X = x
		wantCheck(t, saleLP(), r, false)
	}
	for _, x := range [][]impl.Rat{
		nil, wholes(3, 2), wholes(3, 2, 0, 0), wholes(4, 2, 0), wholes(3, 2, 1), wholes(3, 3, 1), wholes(0, 0, 0), wholes(1, 1, 1),
		wholes(2, 1, -1), wholes(0, -1, -3), parts(pair(3, 1), pair(2, 1), pair(0, 0)), parts(pair(3, 1), pair(4, 2), pair(0, 1)),
	} {
		r := endlessResult()
		r.X = x
		wantCheck(t, endlessLP(), r, false)
	}
	for _, x := range [][]impl.Rat{wholes(4, 3, 1), parts(pair(7, 2), pair(5, 2), pair(1, 2))} {
		r := endlessResult()
		r.X = x
		wantCheck(t, endlessLP(), r, true)
	}
}

func TestCheckLPComparesEveryColumnWithItsCost(t *testing.T) {
	near := pair(1, 100000000)
	// These keep Y * B, and exceed the cost of column 0 or 1 alone.
	for _, s := range []impl.Rat{pair(1, 1000), pair(-1, 1000), pair(1, 12), near, pair(-1, 100000000)} {
		y, _ := definedScaled(parts(pair(-1, 2), pair(-1, 2)), s, wholes(3, -2))
		wantCheck(t, saleLP(), optimal(saleResult().X, y, pair(-5, 1)), false)
	}
	// The product of Y and each of the columns 2 and 3 is -1/2.
	for _, j := range []int{2, 3} {
		for _, c := range []struct {
			cost impl.Rat
			want bool
		}{
			{pair(-1, 2), true},
			{pair(-499999999, greatestPart), true},
			{pair(-500000001, greatestPart), false},
			{pair(-1, 1), false},
			// The differences of these do not fit.
			{pair(greatestPart, 1), true},
			{pair(-greatestPart, 1), false},
			{pair(-499999968, 999999937), true},
			{pair(-499999969, 999999937), false},
			{pair(greatestPart, 999999937), true},
			{pair(-greatestPart, 999999937), false},
		} {
			p := saleLP()
			p.C[j] = c.cost
			wantCheck(t, p, saleResult(), c.want)
		}
	}
	origin := lp([][]int{{1}}, []int{0}, wholes(greatestPart))
	wantCheck(t, origin, optimal(wholes(0), wholes(-greatestPart), pair(0, 1)), true)
	wantCheck(t, origin, optimal(wholes(0), wholes(greatestPart), pair(0, 1)), true)
	origin.C = wholes(-greatestPart)
	wantCheck(t, origin, optimal(wholes(0), wholes(greatestPart), pair(0, 1)), false)
	wantCheck(t, origin, optimal(wholes(0), wholes(1-greatestPart), pair(0, 1)), false)
	wantCheck(t, origin, optimal(wholes(0), wholes(-greatestPart), pair(0, 1)), true)
}

func TestCheckLPComparesTheLastOfManyColumns(t *testing.T) {
	for j := range greatestCols {
		p := impl.LP{C: slices.Repeat(wholes(1), greatestCols)}
		for i := range greatestRows {
			p.A = append(p.A, slices.Repeat([]int{i + 1}, greatestCols))
			p.B = append(p.B, i+1)
		}
		x := with(slices.Repeat(wholes(0), greatestCols), (j+1)%greatestCols, pair(1, 1))
		y := slices.Repeat(parts(pair(1, 36)), greatestRows)
		wantCheck(t, p, optimal(x, y, pair(1, 1)), true)
		p.C[j] = pair(999999999, greatestPart)
		wantCheck(t, p, optimal(x, y, pair(1, 1)), false)
		p.C[j] = pair(1, 1)
		p.A[greatestRows-1][j]++
		wantCheck(t, p, optimal(x, y, pair(1, 1)), false)
	}
}

func TestCheckLPComparesCostBoundAndValue(t *testing.T) {
	best, worse := wholes(3, 1, 0, 0), wholes(4, 0, 0, 2)
	tight, loose := parts(pair(-1, 2), pair(-1, 2)), wholes(-2, 0)
	for _, x := range [][]impl.Rat{best, worse} {
		for _, y := range [][]impl.Rat{tight, loose} {
			for _, value := range []impl.Rat{
				pair(-5, 1), pair(-4, 1), pair(-8, 1), pair(5, 1), pair(0, 1), pair(-499999999, 100000000),
				// These are not valid, though two of them are as much as -5.
				pair(5, -1), pair(-10, 2), pair(-5, 0), {}, pair(-5, 2),
			} {
				both := slices.Equal(x, best) && slices.Equal(y, tight)
				wantCheck(t, saleLP(), optimal(x, y, value), both && value == pair(-5, 1))
			}
		}
	}
	free := lp([][]int{{0}}, []int{0}, wholes(0))
	for _, value := range append(badRats(), pair(1, 1), pair(-1, 1), pair(1, greatestPart)) {
		wantCheck(t, free, optimal(wholes(0), wholes(0), value), false)
	}
	wantCheck(t, free, optimal(wholes(0), wholes(0), pair(0, 1)), true)
}

func TestCheckLPRejectsDualVectorsOfOtherLengths(t *testing.T) {
	p := lp([][]int{{1}, {0}}, []int{1, 0}, wholes(1))
	for _, c := range []struct {
		y    []impl.Rat
		want bool
	}{
		{nil, false}, {wholes(1), false}, {wholes(1, 0), true}, {wholes(1, 9), true}, {wholes(1, 0, 0), false}, {wholes(1, 0, 0, 0), false},
	} {
		wantCheck(t, p, optimal(wholes(1), c.y, pair(1, 1)), c.want)
	}
	p = lp([][]int{{-1}, {0}}, []int{1, 0}, wholes(1))
	for _, c := range []struct {
		y    []impl.Rat
		want bool
	}{
		{nil, false}, {wholes(1), false}, {wholes(1, 0), true}, {wholes(1, -9), true}, {wholes(1, 0, 0), false}, {wholes(1, 0, 0, 0), false},
	} {
		wantCheck(t, p, infeasible(c.y...), c.want)
	}
}

func TestCheckLPRejectsBadDualVectors(t *testing.T) {
	for _, bad := range badRats() {
		for place := range 3 {
			row := with([][]int{{0, 0}, {0, 0}, {0, 0}}, (place+1)%3, []int{1, 0})
			b := with([]int{0, 0, 0}, (place+1)%3, 1)
			y := with(wholes(0, 0, 0), (place+1)%3, pair(1, 1))
			p := lp(row, b, wholes(1, 0))
			wantCheck(t, p, optimal(wholes(1, 0), y, pair(1, 1)), true)
			wantCheck(t, p, optimal(wholes(1, 0), with(y, place, bad), pair(1, 1)), false)
			row[(place+1)%3] = []int{-1, 0}
			wantCheck(t, p, infeasible(y...), true)
			wantCheck(t, p, infeasible(with(y, place, bad)...), false)
			empty := lp([][]int{{}, {}, {}}, []int{0, 0, 0}, nil)
			wantCheck(t, empty, optimal(nil, y, pair(0, 1)), true)
			wantCheck(t, empty, optimal(nil, with(y, place, bad), pair(0, 1)), false)
		}
	}
}

func TestCheckLPInfeasibleLimits(t *testing.T) {
	tiny, less := pair(1, 1000000), pair(-1, 1000000)
	p := lp([][]int{{1, 0, 0}, {0, 1, 0}, {0, 0, 1}}, []int{-1, -1, -1}, wholes(1, -1, 0))
	wantCheck(t, p, infeasible(wholes(-1, -1, -1)...), true)
	for j := range 3 {
		for _, c := range []struct {
			element impl.Rat
			want    bool
		}{
			{less, true}, {pair(0, 1), true}, {tiny, false}, {pair(1, 1), false}, {pair(-greatestPart+2, 1), true},
		} {
			wantCheck(t, p, infeasible(with(wholes(-1, -1, -1), j, c.element)...), c.want)
		}
	}
	// Y * B is 0, below 0, or just above 0.
	wantCheck(t, p, infeasible(wholes(0, 0, 0)...), false)
	one := lp([][]int{{0}, {-1}}, []int{1, 0}, wholes(0))
	for _, c := range []struct {
		y    impl.Rat
		want bool
	}{
		{pair(1, 1), true}, {pair(1, greatestPart), true}, {pair(greatestPart, 1), true},
		{pair(0, 1), false}, {pair(-1, greatestPart), false}, {pair(-1, 1), false},
	} {
		wantCheck(t, one, infeasible(c.y, pair(0, 1)), c.want)
		wantCheck(t, one, infeasible(c.y, pair(greatestPart, 1)), c.want)
		wantCheck(t, one, infeasible(c.y, less), false)
	}
	// The products of the columns are compared with 0, not with C.
	wantCheck(t, lp([][]int{{1}}, []int{1}, wholes(5)), infeasible(wholes(1)...), false)
	wantCheck(t, lp([][]int{{0}}, []int{1}, wholes(-5)), infeasible(wholes(1)...), true)
}

func TestCheckLPUnboundedRays(t *testing.T) {
	for _, c := range []struct {
		ray  []impl.Rat
		want bool
	}{
		{wholes(1, 1, 1), true},
		{wholes(7, 7, 7), true},
		{slices.Repeat(parts(pair(1, greatestPart)), 3), true},
		{wholes(greatestPart, greatestPart, greatestPart), true},
		{wholes(0, 0, 0), false},
		{wholes(-1, -1, -1), false},
		// A Ray is not 0 in one row alone, also where it is B.
		{wholes(2, 1, 1), false},
		{wholes(1, 1, 0), false},
		{wholes(1, 2, 2), false},
		{wholes(3, 2, 0), false},
		{parts(pair(999999999, greatestPart), pair(1, 1), pair(1, 1)), false},
		{nil, false},
		{wholes(1, 1), false},
		{wholes(1, 1, 1, 1), false},
		{wholes(1, 1, 1, 0), false},
	} {
		wantCheck(t, endlessLP(), unbounded(wholes(3, 2, 0), c.ray), c.want)
	}
	for _, c := range []struct {
		costs []impl.Rat
		want  bool
	}{
		{wholes(-1, 0, 0), true}, {wholes(0, -1, 0), true}, {wholes(0, 0, -1), true}, {wholes(1, 1, -3), true},
		{parts(pair(0, 1), pair(0, 1), pair(-1, greatestPart)), true},
		{parts(pair(0, 1), pair(0, 1), pair(1, greatestPart)), false},
		{wholes(0, 0, 0), false}, {wholes(-1, 1, 0), false}, {wholes(1, 1, -2), false}, {wholes(1, 0, 0), false}, {wholes(-1, -1, 3), false},
	} {
		p := endlessLP()
		p.C = c.costs
		wantCheck(t, p, endlessResult(), c.want)
		// A negative ray that lowers the cost is no ray.
		wantCheck(t, p, unbounded(wholes(3, 2, 0), wholes(-1, -1, -1)), false)
	}
	// One negative element is enough, in each place.
	free := lp([][]int{{0, 0, 0}}, []int{0}, wholes(-5, -5, -5))
	for j := range 3 {
		wantCheck(t, free, unbounded(wholes(0, 0, 0), with(wholes(1, 1, 1), j, pair(0, 1))), true)
		wantCheck(t, free, unbounded(wholes(0, 0, 0), with(wholes(1, 1, 1), j, pair(-1, greatestPart))), false)
		for _, bad := range badRats() {
			wantCheck(t, free, unbounded(wholes(0, 0, 0), with(wholes(1, 1, 1), j, bad)), false)
			wantCheck(t, free, unbounded(with(wholes(1, 1, 1), j, bad), wholes(1, 1, 1)), false)
			p := lp(free.A, free.B, with(free.C, j, pair(0, 1)))
			wantCheck(t, p, unbounded(wholes(0, 0, 0), with(wholes(1, 1, 1), j, bad)), false)
		}
	}
}

// TestCheckLPWhereProductsDoNotFit examines results all of whose conditions
// hold, but for some of which a product or a partial sum does not fit.
func TestCheckLPWhereProductsDoNotFit(t *testing.T) {
	for _, c := range slices.Concat(optimalFits(), infeasibleFits(), unboundedFits()) {
		wantCheck(t, c.p, c.r, c.want)
	}
}

type fitCase struct {
	p    impl.LP
	r    impl.LpResult
	want bool
}

func optimalFits() []fitCase {
	const most = greatestPart
	zero, third, tiny := pair(0, 1), pair(1, 3), pair(1, most)
	var list []fitCase
	// A X
	list = append(list,
		fitCase{lp([][]int{{1, -1}}, []int{0}, wholes(0, 0)), optimal(wholes(most, most), wholes(0), zero), true},
		fitCase{lp([][]int{{2, -2}}, []int{0}, wholes(0, 0)), optimal(wholes(most, most), wholes(0), zero), false},
	)
	// Y and a column, the first or the last one
	for _, c := range []struct {
		column []int
		y      []impl.Rat
		want   bool
	}{
		{[]int{1, -1, 1}, wholes(most, 1, 1), true},
		{[]int{1, 1, -1}, wholes(most, 1, 1), false},
		{[]int{1, 0, 0}, wholes(-most, 1, 1), true},
		{[]int{2, 0, 0}, wholes(-most, 1, 1), false},
		{[]int{0, 0, 5000}, wholes(0, 0, -200000), true},
		{[]int{0, 0, 5000}, wholes(0, 0, -200001), false},
		{[]int{-1, 1, 0}, parts(third, third, tiny), true},
		{[]int{-1, 0, 1}, parts(third, third, tiny), false},
	} {
		for place := range 2 {
			p := impl.LP{B: []int{0, 0, 0}, C: with(wholes(0, 0), place, pair(most, 1))}
			for _, n := range c.column {
				p.A = append(p.A, with([]int{0, 0}, place, n))
			}
			list = append(list, fitCase{p, optimal(wholes(0, 0), c.y, zero), c.want})
		}
	}
	// Y * B
	rows := [][]int{{1}, {1}, {-1}}
	list = append(list,
		fitCase{lp(rows, []int{2, 2, -2}, wholes(0)), optimal(wholes(2), wholes(400000000, 100000000, 500000000), zero), true},
		fitCase{lp(rows, []int{2, 2, -2}, wholes(0)), optimal(wholes(2), wholes(400000000, 100000001, 500000001), zero), false},
		fitCase{lp(rows, []int{2, 2, -2}, wholes(0)), optimal(wholes(2), wholes(500000001, -100000000, 400000001), zero), false},
	)
	// Y * B and C * X, which are then both as little as the Value
	both := lp([][]int{{1, -1, 0}, {0, 0, 1}, {0, 0, 1}, {0, 0, -1}}, []int{0, 2, 2, -2}, wholes(most, -most, 0))
	list = append(list,
		fitCase{both, optimal(wholes(1, 1, 2), wholes(most, 400000001, -100000000, 300000001), zero), true},
		fitCase{both, optimal(wholes(2, 2, 2), wholes(most, 500000001, -100000000, 400000001), impl.Rat{}), false},
	)
	// C * X
	return append(list,
		fitCase{lp([][]int{{1, -1}}, []int{0}, wholes(most, -most)), optimal(wholes(1, 1), wholes(most), zero), true},
		fitCase{lp([][]int{{1, -1}}, []int{0}, wholes(most, -most)), optimal(wholes(2, 2), wholes(most), zero), false},
		fitCase{lp([][]int{{1, -1, 0, 0}, {0, 0, 1, -1}}, []int{0, 0}, wholes(most, -most, 1, -1)), optimal(wholes(1, 1, 1, 1), wholes(most, 1), zero), true},
		fitCase{lp([][]int{{1, 0, -1, 0}, {0, 1, 0, -1}}, []int{0, 0}, wholes(most, 1, -most, -1)), optimal(wholes(1, 1, 1, 1), wholes(most, 1), zero), false},
	)
}

func infeasibleFits() []fitCase {
	const most = greatestPart
	return []fitCase{
		// Y and a column
		{lp([][]int{{0, -1}}, []int{1}, wholes(0, 0)), infeasible(wholes(most)...), true},
		{lp([][]int{{0, -2}}, []int{1}, wholes(0, 0)), infeasible(wholes(most)...), false},
		{lp([][]int{{-2, 0}}, []int{1}, wholes(0, 0)), infeasible(wholes(most)...), false},
		{lp([][]int{{1, 0}, {-1, 0}, {-1, 0}}, []int{0, 1, 0}, wholes(0, 0)), infeasible(wholes(most, most, 1)...), true},
		{lp([][]int{{1, 0}, {1, 0}, {-2, 0}}, []int{0, 1, 0}, wholes(0, 0)), infeasible(wholes(most, 1, most)...), false},
		// Y * B
		{lp([][]int{{0}}, []int{1}, wholes(0)), infeasible(wholes(most)...), true},
		{lp([][]int{{0}}, []int{2}, wholes(0)), infeasible(wholes(most)...), false},
		{lp([][]int{{0}, {0}, {0}}, []int{1, -1, 1}, wholes(0)), infeasible(wholes(most, 1, 1)...), true},
		{lp([][]int{{0}, {0}, {0}}, []int{1, 1, -1}, wholes(0)), infeasible(wholes(most, 1, 1)...), false},
		{lp([][]int{{0}, {0}, {0}}, []int{-1, -1, 3}, wholes(0)), infeasible(wholes(most, 1, 333333334)...), false},
		{lp([][]int{{}, {}}, []int{1, 1}, nil), infeasible(wholes(most-1, 1)...), true},
		{lp([][]int{{}, {}}, []int{1, 1}, nil), infeasible(wholes(most, 1)...), false},
	}
}

func unboundedFits() []fitCase {
	const most = greatestPart
	zeros := wholes(0, 0, 0, 0)
	long, falling := wholes(most, 1, most, 1), wholes(-1, 0, 0, 0)
	one := lp([][]int{{0}}, []int{0}, wholes(-1))
	two := lp([][]int{{0}}, []int{0}, wholes(-2))
	return []fitCase{
		// A X and A Ray
		{lp([][]int{{1, -1, -1, 1}}, []int{0}, falling), unbounded(long, wholes(1, 0, 1, 0)), true},
		{lp([][]int{{1, 1, -1, -1}}, []int{0}, falling), unbounded(long, wholes(1, 0, 1, 0)), false},
		{lp([][]int{{2, 0, -2, 0}}, []int{0}, falling), unbounded(long, wholes(1, 0, 1, 0)), false},
		{lp([][]int{{1, -1, -1, 1}}, []int{0}, falling), unbounded(zeros, long), true},
		{lp([][]int{{1, 1, -1, -1}}, []int{0}, falling), unbounded(zeros, long), false},
		{lp([][]int{{2, 0, -2, 0}}, []int{0}, falling), unbounded(zeros, long), false},
		// C * Ray
		{one, unbounded(wholes(0), wholes(most)), true},
		{two, unbounded(wholes(0), wholes(most/2)), true},
		{two, unbounded(wholes(0), wholes(most/2+1)), false},
		{lp(nil, nil, wholes(-1, 1, -1)), unbounded(wholes(0, 0, 0), wholes(most, 1, 1)), true},
		{lp(nil, nil, wholes(-1, -1, 1)), unbounded(wholes(0, 0, 0), wholes(most, 1, 1)), false},
		{lp(nil, nil, wholes(1, 1, -2)), unbounded(wholes(0, 0, 0), wholes(most, 1, most/2)), false},
		// C * X is not computed.
		{two, unbounded(wholes(most), wholes(1)), true},
	}
}

// wantDefinedCheck compares CheckLP with its definition, and reports whether
// the result is accepted.
func wantDefinedCheck(t *testing.T, p impl.LP, r impl.LpResult) bool {
	t.Helper()
	want := definedCheck(p, r)
	wantCheck(t, p, r, want)
	return want
}

// drawn draws LPs and results, always the same ones in the same order.
type drawn struct{ *rand.Rand }

func newDrawn() drawn { return drawn{rand.New(rand.NewSource(5))} }

func (d drawn) between(least, most int) int { return least + d.Intn(most-least+1) }

func (d drawn) ints(length, least, most int) []int {
	var list []int
	for range length {
		list = append(list, d.between(least, most))
	}
	return list
}

func (d drawn) rows(rows, cols int) [][]int {
	var list [][]int
	for range rows {
		list = append(list, d.ints(cols, -6, 6))
	}
	return list
}

func dotOfInts(a, b []int) int {
	sum := 0
	for i := range a {
		sum += a[i] * b[i]
	}
	return sum
}

func productsOf(rows [][]int, x []int) []int {
	var list []int
	for _, row := range rows {
		list = append(list, dotOfInts(row, x))
	}
	return list
}

func columnsOf(rows [][]int, cols int) [][]int {
	list := make([][]int, cols)
	for _, row := range rows {
		for j, n := range row {
			list[j] = append(list[j], n)
		}
	}
	return list
}

// strangeVector draws fractions at the limits and some that are not valid, often
// the same one for all elements.
func (d drawn) strangeVector(length int) []impl.Rat {
	list := strangeRats()
	v := slices.Repeat(parts(list[d.Intn(len(list))]), length)
	if d.Intn(3) == 0 {
		v[d.Intn(length)] = list[d.Intn(len(list))]
	}
	return v
}

func TestCheckLPOfStrangeResults(t *testing.T) {
	d := newDrawn()
	accepted := map[int]int{}
	for range 20000 {
		n := d.between(-2, 2)
		p := lp([][]int{{n, -n}, {0, d.Intn(3) / 2}}, []int{d.Intn(3) / 2, d.Intn(3) / 2}, d.strangeVector(2))
		r := impl.LpResult{
			Status: d.between(1, 3), Value: strangeRats()[d.Intn(2)],
			X: d.strangeVector(2), Y: d.strangeVector(2), Ray: d.strangeVector(2),
		}
		if wantDefinedCheck(t, p, r) {
			accepted[r.Status]++
		}
	}
	for code := 1; code <= 3; code++ {
		if accepted[code] < 10 {
			t.Errorf("%d results with the code %d are accepted", accepted[code], code)
		}
	}
}

// optimalCase draws X, Y and A; the costs are as great as Y demands where X is
// greater than 0, and sometimes greater elsewhere.
func (d drawn) optimalCase(rows, cols int) proven {
	a, x, y := d.rows(rows, cols), d.ints(cols, -1, 2), d.ints(rows, -3, 3)
	for j := range x {
		x[j] = max(x[j], 0)
	}
	costs := productsOf(columnsOf(a, cols), y)
	for j := range costs {
		if x[j] == 0 {
			costs[j] += d.between(0, 2)
		}
	}
	value := pair(dotOfInts(costs, x), 1)
	return proven{lp(a, productsOf(a, x), wholes(costs...)), optimal(wholes(x...), wholes(y...), value)}
}

// infeasibleCase draws all but the last row, which contradicts the others.
func (d drawn) infeasibleCase(rows, cols int) proven {
	a, b, y := d.rows(rows-1, cols), d.ints(rows-1, -6, 6), d.ints(rows-1, -3, 3)
	last := productsOf(columnsOf(a, cols), y)
	for j := range last {
		last[j] += d.between(0, 2)
	}
	a, b, y = append(a, last), append(b, dotOfInts(b, y)-d.between(1, 2)), append(y, -1)
	return proven{lp(a, b, wholes(d.ints(cols, -3, 3)...)), infeasible(wholes(y...)...)}
}

// unboundedCase draws all but the last column, to which the ray leads.
func (d drawn) unboundedCase(rows, cols int) proven {
	a, x := d.rows(rows, cols-1), d.ints(cols, 0, 2)
	ray, costs := d.ints(cols-1, 0, 2), d.ints(cols-1, -3, 3)
	for i, n := range productsOf(a, ray) {
		a[i] = append(a[i], -n)
	}
	costs = append(costs, -dotOfInts(costs, ray)-d.between(1, 2))
	ray = append(ray, 1)
	return proven{lp(a, productsOf(a, x), wholes(costs...)), unbounded(wholes(x...), wholes(ray...))}
}

func (d drawn) cases(rows, cols int) []proven {
	return []proven{d.optimalCase(rows, cols), d.infeasibleCase(rows, cols), d.unboundedCase(rows, cols)}
}

// spoilRat changes a fraction, sometimes to one that is not valid.
func (d drawn) spoilRat(r impl.Rat) impl.Rat {
	if d.Intn(8) == 0 {
		return badRats()[d.Intn(len(badRats()))]
	}
	change := parts(pair(1, 1), pair(-1, 1), pair(1, 2), pair(-1, 1000000))[d.Intn(4)]
	r, _ = wantedOperation("+", r, change)
	return r
}

// spoilVector changes one element, or the length.
func (d drawn) spoilVector(v []impl.Rat) []impl.Rat {
	v = slices.Clone(v)
	if len(v) == 0 || d.Intn(8) == 0 {
		return append(v, pair(0, 1))
	}
	if d.Intn(8) == 0 {
		return v[:len(v)-1]
	}
	place := d.Intn(len(v))
	v[place] = d.spoilRat(v[place])
	return v
}

// spoil changes one thing of an LP or of its result, which may matter or not.
func (d drawn) spoil(c proven) proven {
	p, r := copyLP(c.p), c.r
	switch i := d.Intn(len(p.A)); d.Intn(7) {
	case 0:
		r.X = d.spoilVector(r.X)
	case 1:
		r.Y = d.spoilVector(r.Y)
	case 2:
		r.Ray = d.spoilVector(r.Ray)
	case 3:
		p.C = d.spoilVector(p.C)
	case 4:
		p.B[i] += d.between(-1, 1)
	case 5:
		p.A[i][d.Intn(len(p.C))] += d.between(-1, 1)
	case 6:
		r.Value = d.spoilRat(r.Value)
	}
	return proven{p, r}
}

func TestCheckLPOfDrawnResults(t *testing.T) {
	d := newDrawn()
	accepted, rejected := 0, 0
	for _, size := range [][2]int{{1, 1}, {1, 2}, {2, 1}, {2, 2}, {3, 5}, {5, 3}, {8, 8}, {greatestRows, greatestCols}} {
		for range 15 {
			for _, c := range d.cases(size[0], size[1]) {
				wantCheck(t, c.p, c.r, true)
				for range 12 {
					if other := d.spoil(c); wantDefinedCheck(t, other.p, other.r) {
						accepted++
					} else {
						rejected++
					}
				}
			}
		}
	}
	if accepted < 300 || rejected < 300 {
		t.Errorf("%d spoiled results are accepted, %d rejected", accepted, rejected)
	}
}

// TestCertificatesExcludeOtherCodes checks that the evidence for one code is
// accepted for no other one, and that no other code has evidence among many
// vectors.
func TestCertificatesExcludeOtherCodes(t *testing.T) {
	short := append(wholes(0, 1, -1, 2), pair(1, 2), pair(-1, 2))
	d, found := newDrawn(), map[int]int{}
	for i := range 400 {
		rows := 1 + i%2
		p := lp([][]int{d.ints(2, -1, 1), d.ints(2, -1, 1)}[:rows], d.ints(rows, -1, 1), wholes(d.ints(2, -1, 1)...))
		feasible, codes, values := false, map[int]bool{}, map[impl.Rat]bool{}
		for _, y := range vectorsOver(short, rows) {
			codes[2] = codes[2] || impl.CheckLP(p, infeasible(y...))
		}
		for _, x := range vectorsOver(short, 2) {
			if !impl.IsFeasible(p, x) {
				continue
			}
			value, _ := impl.DotRat(p.C, x)
			for _, y := range vectorsOver(short, rows) {
				if impl.CheckLP(p, optimal(x, y, value)) {
					codes[1], values[value] = true, true
				}
			}
			for _, ray := range vectorsOver(short, 2) {
				codes[3] = codes[3] || impl.CheckLP(p, unbounded(x, ray))
			}
			feasible = true
		}
		for code, accepted := range codes {
			if accepted {
				found[code]++
			}
		}
		if codes[1] && (codes[2] || codes[3]) || codes[2] && (feasible || codes[3]) || len(values) > 1 {
			t.Errorf("certificates of %v disagree: %v with the values %v", p, codes, values)
		}
	}
	if found[1] < 20 || found[2] < 20 || found[3] < 20 {
		t.Errorf("too few certificates are found: %v", found)
	}
}

// feasibleNeighbours lists vectors near x that IsFeasible accepts.
func feasibleNeighbours(p impl.LP, x []impl.Rat) [][]impl.Rat {
	var list [][]impl.Rat
	for _, step := range vectorsOver(wholes(0, 1, -1, 2), len(x)) {
		if y, ok := impl.AddScaled(x, pair(1, 2), step); ok && impl.IsFeasible(p, y) {
			list = append(list, y)
		}
	}
	return list
}

// TestNothingIsBetterThanAnOptimalValue compares the value that is proven with
// the costs of feasible vectors.
func TestNothingIsBetterThanAnOptimalValue(t *testing.T) {
	d := newDrawn()
	compared := 0
	for range 200 {
		c := d.optimalCase(1, 4)
		for _, x := range feasibleNeighbours(c.p, c.r.X) {
			cost, ok := impl.DotRat(c.p.C, x)
			if !ok || impl.CompareRat(cost, c.r.Value) < 0 {
				t.Errorf("%v of %v costs %v, less than %v", x, c.p, cost, c.r.Value)
			}
			wantCheck(t, c.p, optimal(x, c.r.Y, cost), cost == c.r.Value)
			wantCheck(t, c.p, optimal(x, c.r.Y, c.r.Value), cost == c.r.Value)
			compared++
		}
	}
	if compared < 400 {
		t.Errorf("only %d vectors are feasible", compared)
	}
}

// TestRaysStayFeasible checks that a vector remains feasible along its ray, and
// that its cost falls.
func TestRaysStayFeasible(t *testing.T) {
	d := newDrawn()
	for _, size := range [][2]int{{1, 1}, {1, 2}, {2, 2}, {3, 5}, {greatestRows, 20}} {
		for range 20 {
			c := d.unboundedCase(size[0], size[1])
			before, _ := impl.DotRat(c.p.C, c.r.X)
			for _, k := range []impl.Rat{pair(1, 3), pair(1, 1), pair(1000, 1)} {
				x, ok := impl.AddScaled(c.r.X, k, c.r.Ray)
				cost, okCost := impl.DotRat(c.p.C, x)
				if !ok || !okCost || impl.CompareRat(cost, before) >= 0 {
					t.Errorf("the cost of %v along %v is %v, from %v", c.p, c.r.Ray, cost, before)
				}
				wantFeasible(t, c.p, x, true)
				wantCheck(t, c.p, unbounded(x, c.r.Ray), true)
			}
		}
	}
}

// equality is a function that compares two values, with what it takes to guard
// them, and to have nil or empty slices in place of those without elements.
type equality[V any] struct {
	name   string
	equal  func(a, b V) bool
	guard  func(v V) (V, func(t *testing.T, call string))
	hollow func(v V, absent bool) V
}

// want checks the function in both orders.
func (e equality[V]) want(t *testing.T, a, b V, want bool) {
	t.Helper()
	for range 2 {
		x, wantXUnchanged := e.guard(a)
		y, wantYUnchanged := e.guard(b)
		got := e.equal(x, y)
		for _, absent := range []bool{true, false} {
			if e.equal(e.hollow(a, absent), e.hollow(b, !absent)) != want {
				got = !want
			}
		}
		if got != want {
			t.Errorf("%s(%v, %v) = %t", e.name, a, b, got)
		}
		wantXUnchanged(t, e.name)
		wantYUnchanged(t, e.name)
		a, b = b, a
	}
}

func wantEqualResults(t *testing.T, a, b impl.LpResult, want bool) {
	t.Helper()
	guard := func(r impl.LpResult) (impl.LpResult, func(t *testing.T, call string)) {
		g := guardResult(r)
		return g.given, g.wantUnchanged
	}
	equality[impl.LpResult]{"EqualResult", impl.EqualResult, guard, hollowResult}.want(t, a, b, want)
}

// otherVectors differ from v in the length, or in one element.
func otherVectors(v []impl.Rat) [][]impl.Rat {
	list := [][]impl.Rat{append(slices.Clone(v), pair(0, 1)), append(slices.Clone(v), impl.Rat{}), append(slices.Clone(v), pair(77, 1))}
	if len(v) > 0 {
		list = append(list, nil, v[:len(v)-1], v[1:])
	}
	for place, r := range v {
		list = append(list, with(v, place, pair(r.Num+1, r.Den)), with(v, place, pair(r.Num, r.Den+1)), with(v, place, pair(-r.Num-1, r.Den)))
	}
	return list
}

func copyResult(r impl.LpResult) impl.LpResult {
	r.X, r.Y, r.Ray = slices.Clone(r.X), slices.Clone(r.Y), slices.Clone(r.Ray)
	return r
}

func TestEqualResultComparesEveryField(t *testing.T) {
	full := impl.LpResult{Status: 1, X: wholes(3, 1), Y: parts(pair(-1, 2), pair(5, 1)), Ray: wholes(7), Value: pair(-5, 3), Pivots: 4}
	strange := impl.LpResult{Status: -9, X: badRats(), Y: badRats(), Ray: badRats(), Value: pair(math.MinInt, -1), Pivots: math.MinInt}
	for _, r := range []impl.LpResult{{}, full, saleResult(), conflictResult(), endlessResult(), strange} {
		wantEqualResults(t, r, r, true)
		wantEqualResults(t, r, copyResult(r), true)
		change := func(change func(r *impl.LpResult)) {
			t.Helper()
			other := copyResult(r)
			change(&other)
			wantEqualResults(t, r, other, false)
		}
		for _, n := range []int{1, -1, 8, 1 << 32, math.MinInt} {
			change(func(r *impl.LpResult) { r.Status += n })
			change(func(r *impl.LpResult) { r.Pivots += n })
			change(func(r *impl.LpResult) { r.Value.Num += n })
			change(func(r *impl.LpResult) { r.Value.Den += n })
		}
		change(func(r *impl.LpResult) { r.Value.Num, r.Value.Den = r.Value.Num+1, r.Value.Den+1 })
		for _, v := range otherVectors(r.X) {
			change(func(r *impl.LpResult) { r.X = v })
		}
		for _, v := range otherVectors(r.Y) {
			change(func(r *impl.LpResult) { r.Y = v })
		}
		for _, v := range otherVectors(r.Ray) {
			change(func(r *impl.LpResult) { r.Ray = v })
		}
	}
}

// TestEqualResultComparesFieldsWithThemselves exchanges what two fields have.
func TestEqualResultComparesFieldsWithThemselves(t *testing.T) {
	one, two := wholes(1, 2), wholes(2, 1)
	r := impl.LpResult{X: one, Y: two, Ray: nil, Status: 3, Pivots: 4}
	wantEqualResults(t, r, impl.LpResult{X: two, Y: one, Ray: nil, Status: 3, Pivots: 4}, false)
	wantEqualResults(t, r, impl.LpResult{X: one, Y: nil, Ray: two, Status: 3, Pivots: 4}, false)
	wantEqualResults(t, r, impl.LpResult{X: nil, Y: two, Ray: one, Status: 3, Pivots: 4}, false)
	wantEqualResults(t, r, impl.LpResult{X: one, Y: two, Ray: nil, Status: 4, Pivots: 3}, false)
	// Fractions of the same amount are different if their fields are.
	for _, value := range []impl.Rat{pair(2, 4), pair(-1, -2), pair(1, 2)} {
		a, b := impl.LpResult{Value: pair(1, 2)}, impl.LpResult{Value: value}
		wantEqualResults(t, a, b, value == pair(1, 2))
		a, b = impl.LpResult{X: parts(pair(1, 2))}, impl.LpResult{X: parts(value)}
		wantEqualResults(t, a, b, value == pair(1, 2))
	}
}

// TestVeryLargeLPs examines arguments far beyond the limits.
func TestVeryLargeLPs(t *testing.T) {
	const length = 100000
	zeros := slices.Repeat(wholes(0), length)
	for _, p := range []impl.LP{
		{C: zeros},
		{A: make([][]int, length), B: make([]int, length)},
		{A: [][]int{make([]int, length)}, B: []int{0}, C: zeros},
		{A: [][]int{make([]int, length)}, B: []int{0}, C: wholes(0)},
		{A: [][]int{{0}}, B: make([]int, length), C: wholes(0)},
	} {
		for j := range 2 {
			wantColumn(t, p, j)
		}
		for _, v := range [][]impl.Rat{nil, zeros} {
			if impl.IsValidLP(p) || impl.IsFeasible(p, v) {
				t.Errorf("an LP with %d rows and %d columns is accepted", len(p.A), len(p.C))
			}
			for code := range 5 {
				if impl.CheckLP(p, impl.LpResult{Status: code, X: v, Y: v, Ray: v, Value: pair(0, 1)}) {
					t.Errorf("the code %d is accepted for an LP with %d rows and %d columns", code, len(p.A), len(p.C))
				}
			}
		}
	}
	wantFeasible(t, saleLP(), zeros, false)
	wantCheck(t, saleLP(), optimal(zeros, saleResult().Y, pair(-5, 1)), false)
	wantCheck(t, saleLP(), optimal(saleResult().X, zeros, pair(-5, 1)), false)
	wantCheck(t, conflictLP(), infeasible(zeros...), false)
	wantCheck(t, endlessLP(), unbounded(endlessResult().X, zeros), false)
	wantEqualResults(t, optimal(zeros, nil, pair(0, 1)), optimal(zeros[1:], nil, pair(0, 1)), false)
}

// TestLPsInTheSameMemory passes LPs and results whose slices overlap.
func TestLPsInTheSameMemory(t *testing.T) {
	row := []int{1, -1, 0, 0}
	ones := wholes(1, 1, -1, -1)
	p := lp([][]int{row, row, row[:4]}, row[2:4:4], ones)
	wantValidLP(t, p, false)
	p.A = p.A[:2]
	if !impl.IsValidLP(p) || !impl.IsFeasible(p, wholes(1, 1, 0, 0)) || !slices.Equal(impl.ColumnOf(p, 1), []int{-1, -1}) {
		t.Errorf("%v is not the LP that it seems", p)
	}
	v := wholes(0, 0, 1, 1)
	r := impl.LpResult{Status: 3, X: v, Ray: v, Y: v[:2]}
	if !impl.CheckLP(p, r) || !impl.EqualResult(r, r) {
		t.Errorf("CheckLP(%v, %v) = false", p, r)
	}
	scribble(impl.ColumnOf(p, 0), -88)
	if !slices.Equal(row, []int{1, -1, 0, 0}) || !slices.Equal(v, wholes(0, 0, 1, 1)) || !slices.Equal(ones, wholes(1, 1, -1, -1)) {
		t.Errorf("%v or %v was modified", p, r)
	}
}

func TestLPsKeepNoState(t *testing.T) {
	for range 3 {
		for code := 1; code <= 3; code++ {
			c := provenCases()[code]
			wantCheck(t, c.p, c.r, true)
			wantCheck(t, impl.LP{}, c.r, false)
			wantColumn(t, c.p, -1)
			wantValidLP(t, c.p, true)
		}
		wantColumn(t, saleLP(), 1, 1, 3)
		wantFeasible(t, saleLP(), wholes(3, 1, 0, 0), true)
		wantFeasible(t, saleLP(), wholes(3, 1, 0), false)
		wantEqualResults(t, saleResult(), saleResult(), true)
		wantEqualResults(t, saleResult(), conflictResult(), false)
	}
}
