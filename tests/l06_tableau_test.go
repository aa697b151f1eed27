package tests

import (
	"fmt"
	"math"
	"slices"
	"testing"

	"loop.example/g00520/impl"
)

const greatestTableauCols = 1000

func tableau(cols int, basis []int, rows ...[]impl.Rat) impl.Tableau {
	return impl.Tableau{Rows: rows, Basis: basis, Cols: cols}
}

func copyTableau(x impl.Tableau) impl.Tableau {
	rows := slices.Clone(x.Rows)
	for i := range rows {
		rows[i] = slices.Clone(rows[i])
	}
	return tableau(x.Cols, slices.Clone(x.Basis), rows...)
}

// changed returns a copy of x with a change.
func changed(x impl.Tableau, change func(x *impl.Tableau)) impl.Tableau {
	x = copyTableau(x)
	change(&x)
	return x
}

func isSameTableau(a, b impl.Tableau) bool {
	return a.Cols == b.Cols && slices.Equal(a.Basis, b.Basis) && slices.EqualFunc(a.Rows, b.Rows, slices.Equal)
}

func hollowTableau(x impl.Tableau, absent bool) impl.Tableau {
	x = copyTableau(x)
	for i := range x.Rows {
		x.Rows[i] = hollow(x.Rows[i], absent)
	}
	return tableau(x.Cols, hollow(x.Basis, absent), hollow(x.Rows, absent)...)
}

type guardedTableau struct {
	given impl.Tableau
	rows  guardedRows[impl.Rat]
	basis guarded[int]
}

// guardTableau puts column 0 beside Basis, and valid rows of the same length
// beside the rows.
func guardTableau(x impl.Tableau) guardedTableau {
	length := 0
	if len(x.Rows) > 0 {
		length = len(x.Rows[0])
	}
	g := guardedTableau{rows: guardRows(x.Rows, length, pair(77, 1)), basis: guard(x.Basis, 0)}
	g.given = tableau(x.Cols, g.basis.given, g.rows.given...)
	return g
}

func (g guardedTableau) wantUnchanged(t *testing.T, call string) {
	t.Helper()
	g.rows.wantUnchanged(t, call)
	g.basis.wantUnchanged(t, call)
}

func (g guardedTableau) scribble() {
	g.rows.scribble(pair(-99, 1))
	scribble(g.basis.whole, -99)
}

// scribbleTableau changes all memory of a result, and checks that no two of its
// rows share any.
func scribbleTableau(t *testing.T, call string, x impl.Tableau) {
	t.Helper()
	for i, row := range x.Rows {
		scribble(row, pair(-100-i, 1))
	}
	for i, row := range x.Rows {
		for _, r := range row[:cap(row)] {
			if r != pair(-100-i, 1) {
				t.Errorf("%s: row %d of the result shares memory with another one", call, i)
				return
			}
		}
	}
	scribble(x.Basis, -88)
	scribble(x.Rows, nil)
}

func tableauResults() results[impl.Tableau] {
	return results[impl.Tableau]{copyTableau, scribbleTableau, isSameTableau}
}

func callStart(t *testing.T, p impl.LP) impl.Tableau {
	t.Helper()
	g := guardLP(p)
	return tableauResults().callTwice(t, "StartTableau", g, func() impl.Tableau { return impl.StartTableau(g.given) })
}

// callPivot checks that two results share no memory with the guarded tableau or
// with each other.
func callPivot(t *testing.T, x impl.Tableau, row, col int) (impl.Tableau, bool) {
	t.Helper()
	g := guardTableau(x)
	got, ok := impl.PivotTableau(g.given, row, col)
	again, okAgain := impl.PivotTableau(g.given, row, col)
	kept := copyTableau(got)
	scribbleTableau(t, "PivotTableau", got)
	g.wantUnchanged(t, "PivotTableau, or a change of its result,")
	g.scribble()
	if ok != okAgain || !isSameTableau(again, kept) {
		t.Errorf("PivotTableau(%v, %d, %d) = %v, %t, but %v, %t again", x, row, col, kept, ok, again, okAgain)
	}
	return kept, ok
}

// callCosts checks the same of CostRow.
func callCosts(t *testing.T, x impl.Tableau, cost []impl.Rat) ([]impl.Rat, bool) {
	t.Helper()
	g, c := guardTableau(x), guardRats(cost)
	got, ok := impl.CostRow(g.given, c.given)
	again, okAgain := impl.CostRow(g.given, c.given)
	kept := slices.Clone(got)
	scribble(got, pair(-88, 1))
	g.wantUnchanged(t, "CostRow, or a change of its result,")
	c.wantUnchanged(t, "CostRow, or a change of its result,")
	g.scribble()
	scribble(c.whole, pair(-99, 1))
	if ok != okAgain || !slices.Equal(again, kept) {
		t.Errorf("CostRow(%v, %v) = %v, %t, but %v, %t again", x, cost, kept, ok, again, okAgain)
	}
	return kept, ok
}

func callSolution(t *testing.T, x impl.Tableau) []impl.Rat {
	t.Helper()
	g := guardTableau(x)
	return listResults(pair(-88, 1)).callTwice(t, "SolutionOf", g, func() []impl.Rat { return impl.SolutionOf(g.given) })
}

// wantStart also passes nil and empty slices in place of those without elements.
func wantStart(t *testing.T, p impl.LP, want impl.Tableau) {
	t.Helper()
	got := callStart(t, p)
	for _, absent := range []bool{true, false} {
		if other := impl.StartTableau(hollowLP(p, absent)); !isSameTableau(other, want) {
			got = other
		}
	}
	if !isSameTableau(got, want) {
		t.Errorf("StartTableau(%v) = %v; want %v", p, got, want)
	}
}

// wantPivot does the same for PivotTableau.
func wantPivot(t *testing.T, x impl.Tableau, row, col int, want impl.Tableau, wantOk bool) {
	t.Helper()
	got, ok := callPivot(t, x, row, col)
	for _, absent := range []bool{true, false} {
		if other, okOther := impl.PivotTableau(hollowTableau(x, absent), row, col); okOther != wantOk || !isSameTableau(other, want) {
			got, ok = other, okOther
		}
	}
	if ok != wantOk || !isSameTableau(got, want) {
		t.Errorf("PivotTableau(%v, %d, %d) = %v, %t; want %v, %t", x, row, col, got, ok, want, wantOk)
	}
}

func wantNoPivot(t *testing.T, x impl.Tableau, row, col int) {
	t.Helper()
	wantPivot(t, x, row, col, x, false)
}

// wantCosts does the same for CostRow.
func wantCosts(t *testing.T, x impl.Tableau, cost, want []impl.Rat, wantOk bool) {
	t.Helper()
	call := fmt.Sprint("CostRow", x, cost)
	got, ok := callCosts(t, x, cost)
	wantVector(t, call, got, ok, want, wantOk)
	for _, absent := range []bool{true, false} {
		got, ok = impl.CostRow(hollowTableau(x, absent), hollow(cost, absent))
		wantVector(t, call, got, ok, want, wantOk)
	}
}

// wantSolution does the same for SolutionOf.
func wantSolution(t *testing.T, x impl.Tableau, want []impl.Rat) {
	t.Helper()
	got := callSolution(t, x)
	for _, absent := range []bool{true, false} {
		if other := impl.SolutionOf(hollowTableau(x, absent)); !slices.Equal(other, want) {
			got = other
		}
	}
	if !slices.Equal(got, want) {
		t.Errorf("SolutionOf(%v) = %v; want %v", x, got, want)
	}
}

// definedStart is the definition of StartTableau.
func definedStart(p impl.LP) impl.Tableau {
	if !isPlainlyValidLP(p) {
		return impl.Tableau{}
	}
	x := impl.Tableau{Cols: len(p.C)}
	for i, numbers := range p.A {
		sign := 1
		if p.B[i] < 0 {
			sign = -1
		}
		var row []impl.Rat
		for _, n := range numbers {
			row = append(row, pair(sign*n, 1))
		}
		row = append(row, with(slices.Repeat(wholes(0), len(p.A)), i, pair(1, 1))...)
		x.Rows = append(x.Rows, append(row, pair(sign*p.B[i], 1)))
		x.Basis = append(x.Basis, len(p.C)+i)
	}
	return x
}

// isPlainForm is the definition of the form that a tableau must have.
func isPlainForm(x impl.Tableau) bool {
	rows := len(x.Rows)
	form := x.Cols >= 0 && x.Cols <= greatestTableauCols && len(x.Basis) == rows
	for _, row := range x.Rows {
		form = form && len(row) == x.Cols+rows+1
	}
	for _, j := range x.Basis {
		form = form && j >= 0 && j <= x.Cols+rows-1
	}
	return form
}

// definedPivot is the definition of PivotTableau, in integers of any size.
func definedPivot(x impl.Tableau, row, col int) (impl.Tableau, bool) {
	if !isPlainForm(x) || row < 0 || row >= len(x.Rows) || col < 0 || col > x.Cols+len(x.Rows)-1 {
		return x, false
	}
	next := copyTableau(x)
	for j, r := range x.Rows[row] {
		quotient, ok := wantedOperation("/", r, x.Rows[row][col])
		if !ok {
			return x, false
		}
		next.Rows[row][j] = quotient
	}
	for i, other := range x.Rows {
		element := other[col]
		if i == row || element == pair(0, 1) {
			continue
		}
		difference, ok := definedScaled(other, pair(-element.Num, element.Den), next.Rows[row])
		if !ok {
			return x, false
		}
		next.Rows[i] = difference
	}
	next.Basis[row] = col
	return next, true
}

// definedCosts is the definition of CostRow.
func definedCosts(x impl.Tableau, cost []impl.Rat) ([]impl.Rat, bool) {
	if !isPlainForm(x) || len(cost) != x.Cols+len(x.Rows) {
		return nil, false
	}
	for _, r := range cost {
		if !isPlainlyValid(r) {
			return nil, false
		}
	}
	costs, ok := append(slices.Clone(cost), pair(0, 1)), true
	for i, row := range x.Rows {
		of := cost[x.Basis[i]]
		if costs, ok = definedScaled(costs, pair(-of.Num, of.Den), row); !ok {
			return nil, false
		}
	}
	return costs, true
}

// saleStart is the tableau of saleLP.
func saleStart() impl.Tableau {
	return tableau(4, []int{4, 5},
		wholes(1, 1, 1, 0, 1, 0, 4),
		wholes(1, 3, 0, 1, 0, 1, 6))
}

func TestStartTableauKnownTableaus(t *testing.T) {
	wantStart(t, saleLP(), saleStart())
	for _, c := range []struct {
		p    impl.LP
		want impl.Tableau
	}{
		{lp([][]int{{2, 1}, {-1, 3}}, []int{4, -2}, wholes(1, 1)),
			tableau(2, []int{2, 3}, wholes(2, 1, 1, 0, 4), wholes(1, -3, 0, 1, 2))},
		// B is below 0, at 0 and above 0.
		{lp([][]int{{5, 0, -6}}, []int{-1}, wholes(7, 8, 9)), tableau(3, []int{3}, wholes(-5, 0, 6, 1, 1))},
		{lp([][]int{{5, 0, -6}}, []int{0}, wholes(7, 8, 9)), tableau(3, []int{3}, wholes(5, 0, -6, 1, 0))},
		{lp([][]int{{5, 0, -6}}, []int{1}, wholes(7, 8, 9)), tableau(3, []int{3}, wholes(5, 0, -6, 1, 1))},
		{lp([][]int{{1}, {2}, {3}, {-4}}, []int{-9, 0, 9, -8}, wholes(0)), tableau(1, []int{1, 2, 3, 4},
			wholes(-1, 1, 0, 0, 0, 9), wholes(2, 0, 1, 0, 0, 0), wholes(3, 0, 0, 1, 0, 9), wholes(4, 0, 0, 0, 1, 8))},
		{lp([][]int{{greatestFactor, -greatestFactor}}, []int{-greatestFactor}, wholes(0, 0)),
			tableau(2, []int{2}, wholes(-greatestFactor, greatestFactor, 1, greatestFactor))},
		// There are no rows, no columns, or neither.
		{lp(nil, nil, wholes(1, 2)), tableau(2, nil)},
		{lp([][]int{{}}, []int{-3}, nil), tableau(0, []int{0}, wholes(1, 3))},
		{lp([][]int{{}, {}}, []int{3, -4}, nil), tableau(0, []int{0, 1}, wholes(1, 0, 3), wholes(0, 1, 4))},
		{impl.LP{}, impl.Tableau{}},
	} {
		wantStart(t, c.p, c.want)
	}
}

func TestStartTableauOfOtherLPs(t *testing.T) {
	for _, size := range [][2]int{{1, 1}, {1, 2}, {2, 1}, {3, 3}, {7, 69}, {greatestRows, greatestCols}} {
		for _, p := range misshapenLPs(size[0], size[1]) {
			wantStart(t, p, impl.Tableau{})
		}
		for _, n := range []int{greatestFactor + 1, -greatestFactor - 1, math.MaxInt, math.MinInt} {
			for i := range size[0] {
				p := plainLP(size[0], size[1])
				p.B[i] = n
				wantStart(t, p, impl.Tableau{})
				p = plainLP(size[0], size[1])
				p.A[i][size[1]-1] = n
				wantStart(t, p, impl.Tableau{})
			}
		}
		for _, bad := range badRats() {
			p := plainLP(size[0], size[1])
			p.C[size[1]-1] = bad
			wantStart(t, p, impl.Tableau{})
		}
	}
	wantStart(t, plainLP(greatestRows+1, 3), impl.Tableau{})
	wantStart(t, plainLP(3, greatestCols+1), impl.Tableau{})
}

// tableauSizes are numbers of rows and of columns.
func tableauSizes() [][2]int {
	return [][2]int{{0, 0}, {0, 3}, {1, 0}, {1, 1}, {1, 4}, {2, 0}, {2, 3}, {3, 1}, {4, 4}, {5, 9}, {greatestRows, greatestCols}}
}

func TestStartTableauAgainstItsDefinition(t *testing.T) {
	d := newDrawn()
	for _, size := range tableauSizes() {
		for range 20 {
			p := lp(d.rows(size[0], size[1]), d.ints(size[0], -1, 1), slices.Repeat(wholes(3), size[1]))
			wantStart(t, p, definedStart(p))
			p = lp(d.rows(size[0], size[1]), d.ints(size[0], -greatestFactor, greatestFactor), slices.Repeat(wholes(3), size[1]))
			wantStart(t, p, definedStart(p))
		}
	}
}

func TestPivotTableauKnownPivots(t *testing.T) {
	half := pair(1, 2)
	wantPivot(t, saleStart(), 0, 0, tableau(4, []int{0, 5},
		wholes(1, 1, 1, 0, 1, 0, 4),
		wholes(0, 2, -1, 1, -1, 1, 2)), true)
	wantPivot(t, saleStart(), 1, 1, tableau(4, []int{4, 1},
		parts(pair(2, 3), pair(0, 1), pair(1, 1), pair(-1, 3), pair(1, 1), pair(-1, 3), pair(2, 1)),
		parts(pair(1, 3), pair(1, 1), pair(0, 1), pair(1, 3), pair(0, 1), pair(1, 3), pair(2, 1))), true)
	// The other row is not changed.
	wantPivot(t, saleStart(), 0, 2, tableau(4, []int{2, 5},
		wholes(1, 1, 1, 0, 1, 0, 4), wholes(1, 3, 0, 1, 0, 1, 6)), true)
	wantPivot(t, saleStart(), 1, 3, tableau(4, []int{4, 3},
		wholes(1, 1, 1, 0, 1, 0, 4), wholes(1, 3, 0, 1, 0, 1, 6)), true)
	// At the column of Basis nothing changes, but it is a pivot.
	wantPivot(t, saleStart(), 0, 4, saleStart(), true)
	wantPivot(t, saleStart(), 1, 5, saleStart(), true)
	// The elements are 0.
	wantNoPivot(t, saleStart(), 0, 3)
	wantNoPivot(t, saleStart(), 0, 5)
	wantNoPivot(t, saleStart(), 1, 2)
	wantNoPivot(t, saleStart(), 1, 4)
	// The elements are negative.
	wantPivot(t, tableau(1, []int{1}, wholes(-2, 1, 6)), 0, 0, tableau(1, []int{0}, parts(pair(1, 1), pair(-1, 2), pair(-3, 1))), true)
	negative := tableau(1, []int{1, 2}, parts(pair(-1, 2), pair(1, 1), pair(0, 1), pair(3, 1)), wholes(-5, 0, 1, 7))
	wantPivot(t, negative, 0, 0, tableau(1, []int{0, 2}, wholes(1, -2, 0, -6), wholes(0, -10, 1, -23)), true)
	wantPivot(t, negative, 1, 0, tableau(1, []int{1, 0},
		parts(pair(0, 1), pair(1, 1), pair(-1, 10), pair(23, 10)),
		parts(pair(1, 1), pair(0, 1), pair(-1, 5), pair(-7, 5))), true)
	// There is one column alone, and it is artificial.
	wantPivot(t, tableau(0, []int{0}, wholes(2, 1)), 0, 0, tableau(0, []int{0}, parts(pair(1, 1), half)), true)
	wantNoPivot(t, tableau(0, []int{0}, wholes(0, 1)), 0, 0)
	wantNoPivot(t, tableau(0, []int{0}, wholes(1, 1)), 0, 1)
	// There are no rows.
	for _, x := range []impl.Tableau{{}, tableau(3, nil), tableau(greatestTableauCols, nil)} {
		for place := -1; place <= 1; place++ {
			wantNoPivot(t, x, place, 0)
			wantNoPivot(t, x, 0, place)
		}
	}
}

// plainTableau has a different element above 0 in each place.
func plainTableau(rows, cols int) impl.Tableau {
	x := impl.Tableau{Cols: cols}
	for i := range rows {
		var row []impl.Rat
		for j := range cols + rows + 1 {
			row = append(row, pair(1000*i+j+1, 1))
		}
		x.Rows = append(x.Rows, row)
		x.Basis = append(x.Basis, i)
	}
	return x
}

// beyondPlaces are places that no list of a length has.
func beyondPlaces(length int) []int {
	return []int{
		-1, -2, -length, -length - 1, length, length + 1, length + 2, 1000, 1 << 32, 1<<32 + 1, -1 << 32,
		1 << 62, math.MaxInt, math.MaxInt - 1, math.MinInt, math.MinInt + 1,
	}
}

// wantDefinedPivot compares PivotTableau with its definition, and returns the
// result.
func wantDefinedPivot(t *testing.T, x impl.Tableau, row, col int) (impl.Tableau, bool) {
	t.Helper()
	want, wantOk := definedPivot(x, row, col)
	wantPivot(t, x, row, col, want, wantOk)
	return want, wantOk
}

func TestPivotTableauInEveryPlace(t *testing.T) {
	for _, size := range tableauSizes() {
		rows, cols := size[0], size[1]
		x := plainTableau(rows, cols)
		for row := range rows {
			for col := range cols + rows {
				if rows == greatestRows && col%7 > 0 && col < cols {
					continue
				}
				if _, ok := wantDefinedPivot(t, x, row, col); !ok {
					t.Errorf("there is no pivot of %v at %d, %d", x, row, col)
				}
			}
			for _, col := range beyondPlaces(cols + rows) {
				if col < 0 || col >= cols+rows {
					wantNoPivot(t, x, row, col)
				}
			}
		}
		for _, row := range beyondPlaces(rows) {
			if row < 0 || row >= rows {
				wantNoPivot(t, x, row, 0)
				wantNoPivot(t, x, row, cols)
				wantNoPivot(t, x, row, row)
			}
		}
	}
}

// TestPivotTableauLeavesRowsUnchanged examines rows whose element in the column
// is 0, with other elements that are not valid, or whose sums would not fit.
func TestPivotTableauLeavesRowsUnchanged(t *testing.T) {
	strange := slices.Concat(badRats(), greatRats())
	for rows := 2; rows <= 4; rows++ {
		for k := range strange {
			row, col, other := k%rows, k/rows%(2+rows), (k+1)%rows
			x := impl.Tableau{Cols: 2, Basis: make([]int, rows)}
			for i := range rows {
				r := strange[(k+7*i)%len(strange)]
				x.Rows = append(x.Rows, with(slices.Repeat(parts(r), 3+rows), col, pair(0, 1)))
			}
			x.Rows[row] = with(slices.Repeat(wholes(greatestPart-2), 3+rows), col, pair(1, 1))
			want := changed(x, func(x *impl.Tableau) { x.Basis[row] = col })
			wantPivot(t, x, row, col, want, true)
			// One of them is changed, which makes no difference to the others.
			x.Rows[other] = with(slices.Repeat(wholes(2), 3+rows), col, pair(-1, 1))
			want.Rows[other] = with(slices.Repeat(wholes(greatestPart), 3+rows), col, pair(0, 1))
			wantPivot(t, x, row, col, want, true)
			x.Rows[other][(col+1)%(3+rows)] = pair(3, 1)
			wantNoPivot(t, x, row, col)
		}
	}
}

// TestPivotTableauOfBadFractions puts a fraction that is not valid in each place
// of the row, of a row that is changed, and of one that is not.
func TestPivotTableauOfBadFractions(t *testing.T) {
	x := tableau(2, []int{2, 3, 4}, wholes(2, 3, 1, 0, 0, 4), wholes(5, 0, 0, 1, 0, 6), wholes(7, 8, 0, 0, 1, 9))
	for _, bad := range badRats() {
		for i := range x.Rows {
			for j := range x.Rows[i] {
				spoiled := changed(x, func(x *impl.Tableau) { x.Rows[i][j] = bad })
				for row := range x.Rows {
					wantNoPivot(t, spoiled, row, 0)
				}
				wantNoPivot(t, spoiled, i, 1)
				for row := range x.Rows {
					if row == 1 || row == i {
						continue
					}
					want, ok := definedPivot(x, row, 1)
					if !ok || i != 1 || j == 1 {
						wantNoPivot(t, spoiled, row, 1)
						continue
					}
					want.Rows[i][j] = bad
					wantPivot(t, spoiled, row, 1, want, true)
				}
			}
		}
	}
}

// TestPivotTableauWhereQuotientsDoNotFit divides each element of a row.
func TestPivotTableauWhereQuotientsDoNotFit(t *testing.T) {
	const most = greatestPart
	for _, c := range []struct {
		element, r impl.Rat
		ok         bool
	}{
		{pair(1, 2), pair(most/2, 1), true}, {pair(1, 2), pair(most/2+1, 1), false},
		{pair(-1, 2), pair(most/2, 1), true}, {pair(-1, 2), pair(most/2+1, 1), false},
		{pair(2, 1), pair(1, most/2), true}, {pair(2, 1), pair(1, most), false}, {pair(2, 1), pair(2, most-1), true},
		{pair(most, 1), pair(1, 1), true}, {pair(most, 1), pair(1, 3), false}, {pair(most, 1), pair(-most, 1), true},
		{pair(1, most), pair(1, 1), true}, {pair(1, most), pair(2, 1), false}, {pair(-1, most), pair(1, most), true},
		{pair(3, 1), pair(1, most), false}, {pair(31623, 1), pair(1, 31623), false}, {pair(31622, 1), pair(1, 31622), true},
	} {
		for rows := 1; rows <= 3; rows++ {
			for row := range rows {
				for col := range 2 + rows {
					x := impl.Tableau{Cols: 2, Basis: make([]int, rows)}
					for range rows {
						x.Rows = append(x.Rows, slices.Repeat(wholes(0), 3+rows))
					}
					x.Rows[row][col] = c.element
					wantDefinedPivot(t, x, row, col)
					for j := range x.Rows[row] {
						if j == col {
							continue
						}
						spread := changed(x, func(x *impl.Tableau) { x.Rows[row][j] = c.r })
						if _, ok := wantDefinedPivot(t, spread, row, col); ok != c.ok {
							t.Errorf("a quotient of %v by %v fits: %t", c.r, c.element, ok)
						}
					}
				}
			}
		}
	}
}

// TestPivotTableauWhereDifferencesDoNotFit has an element above or below the
// row, and in each place the term of AddScaled to which it leads.
func TestPivotTableauWhereDifferencesDoNotFit(t *testing.T) {
	const most = greatestPart
	for _, c := range []struct {
		a, element, r impl.Rat
		ok            bool
	}{
		// Sums
		{pair(most-1, 1), pair(-1, 1), pair(1, 1), true}, {pair(most, 1), pair(-1, 1), pair(1, 1), false},
		{pair(1-most, 1), pair(1, 1), pair(1, 1), true}, {pair(-most, 1), pair(1, 1), pair(1, 1), false},
		{pair(most, 1), pair(1, 1), pair(1, 1), true}, {pair(-most, 1), pair(-1, 1), pair(1, 1), true},
		{pair(1, 2), pair(1, 1), pair(1, most), true}, {pair(1, 2), pair(1, 1), pair(1, most-1), false},
		{pair(most-1, most), pair(-1, 1), pair(1, most), true}, {pair(most-1, most), pair(-3, 1), pair(1, most), false},
		// Products whose sum with the element would fit
		{pair(most, 1), pair(2, 1), pair(most, 1), false}, {pair(-most, 1), pair(-2, 1), pair(most, 1), false},
		{pair(most, 1), pair(1, 1), pair(most, 1), true}, {pair(most, 1), pair(most, 1), pair(1, 1), true},
		{pair(1, 1024), pair(-1, 2), pair(1, most), false}, {pair(0, 1), pair(most, 1), pair(1, most), true},
		{pair(0, 1), pair(31623, 1), pair(31623, 1), false}, {pair(0, 1), pair(31622, 1), pair(31622, 1), true},
	} {
		for rows := 2; rows <= 3; rows++ {
			for row := range rows {
				for other := range rows {
					for place := range 3 + rows {
						col := (place + 1) % (2 + rows)
						if other == row || place == col {
							continue
						}
						x := impl.Tableau{Cols: 2, Basis: make([]int, rows)}
						for range rows {
							x.Rows = append(x.Rows, slices.Repeat(wholes(0), 3+rows))
						}
						x.Rows[row][col], x.Rows[row][place] = pair(1, 1), c.r
						x.Rows[other][col], x.Rows[other][place] = c.element, c.a
						if _, ok := wantDefinedPivot(t, x, row, col); ok != c.ok {
							t.Errorf("%v minus %v times %v fits: %t", c.a, c.element, c.r, ok)
						}
					}
				}
			}
		}
	}
	// The quotient comes before the product.
	wantPivot(t, tableau(1, []int{1, 2}, wholes(most, most, 0, most), wholes(most, most, 0, 0)), 0, 0,
		tableau(1, []int{0, 2}, wholes(1, 1, 0, 1), wholes(0, 0, 0, -most)), true)
	wantNoPivot(t, tableau(1, []int{1, 2}, parts(pair(2, 1), pair(1, most), pair(0, 1), pair(1, 1)), wholes(2, 0, 0, 0)), 0, 0)
}

// misshapenTableaus differ in one thing from plainTableau, which has at least
// one row and one column here.
func misshapenTableaus(rows, cols int) []impl.Tableau {
	var list []impl.Tableau
	add := func(change func(x *impl.Tableau)) {
		list = append(list, changed(plainTableau(rows, cols), change))
	}
	length := cols + rows + 1
	for i := range rows {
		add(func(x *impl.Tableau) { x.Rows[i] = append(x.Rows[i], pair(1, 1)) })
		add(func(x *impl.Tableau) { x.Rows[i] = x.Rows[i][:length-1] })
		add(func(x *impl.Tableau) { x.Rows[i] = nil })
		add(func(x *impl.Tableau) { x.Rows[i] = []impl.Rat{} })
		for _, j := range beyondPlaces(cols + rows) {
			if j < 0 || j >= cols+rows {
				add(func(x *impl.Tableau) { x.Basis[i] = j })
			}
		}
	}
	all := func(change func(row []impl.Rat) []impl.Rat) {
		add(func(x *impl.Tableau) {
			for i, row := range x.Rows {
				x.Rows[i] = change(row)
			}
		})
	}
	all(func(row []impl.Rat) []impl.Rat { return append(row, pair(1, 1)) })
	all(func(row []impl.Rat) []impl.Rat { return row[:length-1] })
	all(func(row []impl.Rat) []impl.Rat { return nil })
	add(func(x *impl.Tableau) { x.Rows = append(x.Rows, x.Rows[0]) })
	add(func(x *impl.Tableau) { x.Rows = x.Rows[:rows-1] })
	add(func(x *impl.Tableau) { x.Rows = nil })
	add(func(x *impl.Tableau) { x.Rows, x.Basis = append(x.Rows, x.Rows[0]), append(x.Basis, 0) })
	add(func(x *impl.Tableau) { x.Basis = append(x.Basis, 0) })
	add(func(x *impl.Tableau) { x.Basis = x.Basis[:rows-1] })
	add(func(x *impl.Tableau) { x.Basis = nil })
	for _, n := range []int{
		-1, -2, cols + 1, cols - 1, -cols, greatestTableauCols, greatestTableauCols + 1, 1 << 32, 1<<32 + cols,
		math.MaxInt, math.MaxInt - rows, math.MaxInt - rows - 1, math.MinInt, math.MinInt + cols, math.MinInt + cols + rows,
	} {
		add(func(x *impl.Tableau) { x.Cols = n })
	}
	if rows > 1 {
		add(func(x *impl.Tableau) { x.Rows, x.Basis = x.Rows[:rows-1], x.Basis[:rows-1] })
		// The rows have as many elements together.
		add(func(x *impl.Tableau) { x.Rows[0], x.Rows[1] = x.Rows[0][:length-1], append(x.Rows[1], pair(1, 1)) })
	}
	return list
}

// wantNoForm checks all functions that demand the form.
func wantNoForm(t *testing.T, x impl.Tableau) {
	t.Helper()
	if isPlainForm(x) {
		t.Errorf("%v has the form", x)
	}
	rows := len(x.Rows)
	for _, row := range []int{-1, 0, rows - 1, rows} {
		wantNoPivot(t, x, row, 0)
		wantNoPivot(t, x, row, rows)
	}
	for _, length := range []int{0, 1, rows, x.Cols + rows - 1, x.Cols + rows, x.Cols + rows + 1} {
		if length >= 0 && length <= 2000 {
			wantCosts(t, x, slices.Repeat(wholes(1), length), nil, false)
			wantCosts(t, x, slices.Repeat(wholes(0), length), nil, false)
		}
	}
	wantSolution(t, x, nil)
	if impl.SolutionOf(x) != nil {
		t.Errorf("SolutionOf(%v) is not nil", x)
	}
}

func TestMisshapenTableaus(t *testing.T) {
	for _, size := range [][2]int{{1, 1}, {1, 4}, {2, 1}, {2, 3}, {4, 2}, {greatestRows, greatestCols}} {
		for _, x := range misshapenTableaus(size[0], size[1]) {
			wantNoForm(t, x)
		}
	}
	for _, x := range otherMisshapenTableaus() {
		wantNoForm(t, x)
	}
}

// otherMisshapenTableaus have no rows, or Cols below 0.
func otherMisshapenTableaus() []impl.Tableau {
	return []impl.Tableau{
		// Without rows, Cols or Basis alone is wrong.
		tableau(-1, nil),
		tableau(greatestTableauCols+1, nil),
		tableau(math.MaxInt, nil),
		tableau(math.MinInt, nil),
		tableau(0, []int{0}),
		tableau(2, []int{0}),
		// These have rows of the right length, but Cols is below 0.
		tableau(-1, []int{0, 0}, wholes(1, 5), wholes(2, 6)),
		tableau(-2, []int{0, 0, 0}, wholes(1, 5), wholes(2, 6), wholes(3, 7)),
		tableau(-1, []int{0}, wholes(1)),
		tableau(-1, []int{-1}, wholes(1)),
		tableau(-2, []int{0}, nil),
		tableau(-2, []int{-1}, []impl.Rat{}),
	}
}

func TestTableausAtTheLimitsOfCols(t *testing.T) {
	for rows := 1; rows <= 3; rows++ {
		for _, cols := range []int{0, 1, greatestTableauCols - 1, greatestTableauCols} {
			x := plainTableau(rows, cols)
			for _, col := range []int{0, cols, cols + rows - 1} {
				for _, row := range []int{0, rows - 1} {
					if _, ok := wantDefinedPivot(t, x, row, col); !ok {
						t.Errorf("there is no pivot at %d, %d of %d rows and %d columns", row, col, rows, cols)
					}
				}
			}
			wantNoPivot(t, x, 0, cols+rows)
			costs := slices.Repeat(wholes(0), cols+rows)
			wantCosts(t, x, costs, append(slices.Clone(costs), pair(0, 1)), true)
			if got := callSolution(t, x); len(got) != cols+rows || got[0] != pair(cols+rows+1, 1) {
				t.Errorf("the solution of %d rows and %d columns is %v", rows, cols, got)
			}
		}
		for _, cols := range []int{greatestTableauCols + 1, greatestTableauCols + 2, 1100} {
			wantNoForm(t, plainTableau(rows, cols))
		}
	}
}

// TestTableausOfManyRows examines more rows than an LP has: their number has no
// limit of its own.
func TestTableausOfManyRows(t *testing.T) {
	for _, rows := range []int{greatestRows + 1, 40} {
		x := impl.Tableau{Cols: 1}
		for i := range rows {
			row := with(slices.Repeat(wholes(0), rows+2), i+1, pair(1, 1))
			row[0], row[rows+1] = pair(i-3, 1), pair(5*i, 1)
			x.Rows, x.Basis = append(x.Rows, row), append(x.Basis, i+1)
		}
		for _, row := range []int{0, 3, rows - 1} {
			for _, col := range []int{0, 1, rows, rows + 1} {
				wantDefinedPivot(t, x, row, col)
			}
		}
		var want []impl.Rat
		for _, row := range x.Rows {
			want = append(want, row[rows+1])
		}
		wantSolution(t, x, slices.Concat(wholes(0), want))
	}
}

// wantUnitColumn checks that a column is 1 in a row, and 0 in all others.
func wantUnitColumn(t *testing.T, x impl.Tableau, row, col int) {
	t.Helper()
	for i := range x.Rows {
		want := pair(0, 1)
		if i == row {
			want = pair(1, 1)
		}
		if x.Rows[i][col] != want {
			t.Errorf("column %d of %v is not 1 in row %d alone", col, x, row)
		}
	}
}

// wantPivotOf checks what a pivot promises of the tableau before and after it.
func wantPivotOf(t *testing.T, x, next impl.Tableau, row, col int) {
	t.Helper()
	wantUnitColumn(t, next, row, col)
	if next.Cols != x.Cols || !slices.Equal(next.Basis, with(x.Basis, row, col)) {
		t.Errorf("a pivot of %v at %d, %d has another Basis or Cols: %v", x, row, col, next)
	}
	for i, other := range x.Rows {
		if i != row && other[col] == pair(0, 1) && !slices.Equal(other, next.Rows[i]) {
			t.Errorf("a pivot of %v at %d, %d changes row %d to %v", x, row, col, i, next.Rows[i])
		}
	}
}

// wantBasisColumns checks that the columns of Basis are unit columns, and have
// no reduced cost.
func wantBasisColumns(t *testing.T, x impl.Tableau, cost []impl.Rat) {
	t.Helper()
	reduced, ok := callCosts(t, x, cost)
	for i, j := range x.Basis {
		wantUnitColumn(t, x, i, j)
		if ok && reduced[j] != pair(0, 1) {
			t.Errorf("the reduced cost of column %d of %v is %v", j, x, reduced[j])
		}
	}
}

// wantSolves checks that the solution of x solves the rows of start, and that it
// has the value that CostRow says.
func wantSolves(t *testing.T, start, x impl.Tableau, cost []impl.Rat) bool {
	t.Helper()
	solution := callSolution(t, x)
	for _, row := range start.Rows {
		got, ok := definedDot(row[:len(row)-1], solution)
		if !ok {
			return false
		}
		if got != row[len(row)-1] {
			t.Errorf("the solution %v of %v does not solve %v", solution, x, row)
		}
	}
	value, ok := definedDot(cost, solution)
	reduced, fits := callCosts(t, x, cost)
	if !ok || !fits {
		return false
	}
	if last := reduced[len(reduced)-1]; last != pair(-value.Num, value.Den) {
		t.Errorf("the last reduced cost of %v is %v; want the negated %v", x, last, value)
	}
	return true
}

// drawnPlace draws a place whose element is not 0, if it finds one.
func (d drawn) drawnPlace(x impl.Tableau) (int, int) {
	row, col := 0, 0
	for range 30 {
		row, col = d.Intn(len(x.Rows)), d.Intn(x.Cols+len(x.Rows))
		if x.Rows[row][col].Num != 0 {
			break
		}
	}
	return row, col
}

func TestPivotsMakeUnitColumns(t *testing.T) {
	d := newDrawn()
	pivots, failed, solved := 0, 0, 0
	for _, size := range [][2]int{{1, 1}, {1, 3}, {2, 1}, {2, 2}, {3, 5}, {5, 3}, {greatestRows, 6}, {greatestRows, greatestCols}} {
		for attempt := range 12 {
			p := lp(d.rows(size[0], size[1]), d.ints(size[0], -9, 9), slices.Repeat(wholes(0), size[1]))
			for i := range p.A {
				if attempt%3 == 0 {
					p.A[i] = d.ints(size[1], -greatestFactor, greatestFactor)
				}
			}
			start := callStart(t, p)
			cost := wholes(d.ints(size[0]+size[1], -4, 4)...)
			x := start
			for range 6 {
				row, col := d.drawnPlace(x)
				next, ok := wantDefinedPivot(t, x, row, col)
				if !ok {
					failed++
					continue
				}
				wantPivotOf(t, x, next, row, col)
				wantBasisColumns(t, next, cost)
				if wantSolves(t, start, next, cost) {
					solved++
				}
				x = next
				pivots++
			}
		}
	}
	if pivots < 400 || failed < 10 || solved < 300 {
		t.Errorf("%d pivots, %d of which are solved, and %d failures", pivots, solved, failed)
	}
}

// TestPivotsCanBeUndone pivots back at the column that the row had before.
func TestPivotsCanBeUndone(t *testing.T) {
	d := newDrawn()
	undone := 0
	for _, size := range [][2]int{{1, 1}, {1, 3}, {2, 2}, {3, 5}, {5, 3}, {greatestRows, 12}} {
		for range 20 {
			p := lp(d.rows(size[0], size[1]), d.ints(size[0], -9, 9), slices.Repeat(wholes(0), size[1]))
			x := impl.StartTableau(p)
			for range 4 {
				row, col := d.drawnPlace(x)
				next, ok := impl.PivotTableau(x, row, col)
				if !ok {
					continue
				}
				if back, ok := impl.PivotTableau(next, row, x.Basis[row]); ok {
					undone++
					if !isSameTableau(back, x) || !impl.EqualTableau(back, x) {
						t.Errorf("a pivot of %v at %d, %d is undone to %v", x, row, col, back)
					}
				}
				x = next
			}
		}
	}
	if undone < 200 {
		t.Errorf("only %d pivots are undone", undone)
	}
}

// drawnTableau has elements from a list, and columns of the Basis that need not
// be unit columns.
func (d drawn) drawnTableau(rows, cols int, list []impl.Rat) impl.Tableau {
	x := impl.Tableau{Cols: cols}
	for range rows {
		var row []impl.Rat
		for range cols + rows + 1 {
			row = append(row, list[d.Intn(len(list))])
		}
		x.Rows, x.Basis = append(x.Rows, row), append(x.Basis, d.Intn(cols+rows))
	}
	return x
}

// tableauElements are lists of fractions, of which more and more do not fit.
func tableauElements() [][]impl.Rat {
	return [][]impl.Rat{
		smallRats(),
		append(slices.Repeat(wholes(0, 1, -1), 3), pair(greatestPart, 1), pair(-greatestPart, 1), pair(1-greatestPart, 1)),
		append(slices.Repeat(wholes(0, 1), 12), pair(1, greatestPart), pair(1, 3), impl.Rat{}, pair(2, 4)),
		append(slices.Repeat(strangeRats()[:3], 4), strangeRats()...),
	}
}

func TestTableausAgainstTheirDefinitions(t *testing.T) {
	d := newDrawn()
	for kind, list := range tableauElements() {
		pivots, costs := map[bool]int{}, map[bool]int{}
		for range 1500 {
			rows, cols := d.between(1, 3), d.between(0, 3)
			x := d.drawnTableau(rows, cols, list)
			_, ok := wantDefinedPivot(t, x, d.between(-1, rows), d.between(-1, cols+rows))
			pivots[ok]++
			cost := d.drawnTableau(1, cols+rows, list).Rows[0][:cols+rows]
			want, ok := definedCosts(x, cost)
			wantCosts(t, x, cost, want, ok)
			costs[ok]++
			if got := callSolution(t, x); len(got) != rows+cols {
				t.Errorf("the solution of %v is %v", x, got)
			}
		}
		if pivots[true] < 30 || pivots[false] < 30 || costs[true] < 30 || kind > 0 && costs[false] < 30 {
			t.Errorf("%d and %d of the pivots and costs of kind %d fit, %d and %d do not",
				pivots[true], costs[true], kind, pivots[false], costs[false])
		}
	}
}

func TestCostRowKnownCosts(t *testing.T) {
	negative := impl.StartTableau(lp([][]int{{2, 1}, {-1, 3}}, []int{4, -2}, wholes(1, 1)))
	third := pair(1, 3)
	basis := tableau(4, []int{4, 1},
		parts(pair(2, 3), pair(0, 1), pair(1, 1), pair(-1, 3), pair(1, 1), pair(-1, 3), pair(2, 1)),
		parts(third, pair(1, 1), pair(0, 1), third, pair(0, 1), third, pair(2, 1)))
	for _, c := range []struct {
		x          impl.Tableau
		cost, want []impl.Rat
	}{
		{negative, wholes(0, 0, 1, 1), wholes(-3, 2, 0, 0, -6)},
		{negative, wholes(0, 0, 0, 0), wholes(0, 0, 0, 0, 0)},
		{negative, wholes(5, 6, 0, 0), wholes(5, 6, 0, 0, 0)},
		{negative, wholes(5, 6, -1, 2), wholes(5, 13, 0, 0, 0)},
		{saleStart(), wholes(0, 0, 0, 0, 1, 1), wholes(-2, -4, -1, -1, 0, 0, -10)},
		{basis, wholes(-1, -2, 0, 0, 0, 0), parts(pair(-1, 3), pair(0, 1), pair(0, 1), pair(2, 3), pair(0, 1), pair(2, 3), pair(4, 1))},
		// The costs are those of the columns of Basis, in its order.
		{tableau(0, []int{1, 0}, wholes(0, 1, 7), wholes(1, 0, 9)), wholes(10, 100), wholes(0, 0, -790)},
		{tableau(0, []int{0, 1}, wholes(1, 0, 7), wholes(0, 1, 9)), wholes(10, 100), wholes(0, 0, -970)},
		{tableau(0, []int{1, 1}, wholes(0, 1, 7), wholes(1, 0, 9)), wholes(10, 100), wholes(-90, 0, -1600)},
		// Basis has columns that are no unit columns.
		{tableau(1, []int{0}, wholes(3, 4, 5)), wholes(2, 1), wholes(-4, -7, -10)},
		{tableau(1, []int{1}, wholes(3, 4, 5)), wholes(2, 1), wholes(-1, -3, -5)},
		// There are no rows.
		{impl.Tableau{}, nil, wholes(0)},
		{tableau(2, nil), parts(pair(1, 2), pair(-greatestPart, 1)), parts(pair(1, 2), pair(-greatestPart, 1), pair(0, 1))},
	} {
		wantCosts(t, c.x, c.cost, c.want, true)
	}
}

func TestCostRowRejectsCostsOfOtherLengths(t *testing.T) {
	for _, size := range tableauSizes() {
		x := plainTableau(size[0], size[1])
		length := size[0] + size[1]
		for _, other := range []int{0, 1, size[0], size[1], length - 1, length, length + 1, length + 2, 2 * length, 5000} {
			if other < 0 {
				continue
			}
			costs := slices.Repeat(wholes(0), other)
			if other == length {
				wantCosts(t, x, costs, append(costs, pair(0, 1)), true)
			} else {
				wantCosts(t, x, costs, nil, false)
			}
		}
	}
}

// TestCostRowRejectsBadFractions puts one in each place of cost and of the rows,
// also where a row has no cost, or there are no rows.
func TestCostRowRejectsBadFractions(t *testing.T) {
	for _, bad := range badRats() {
		for _, size := range [][2]int{{0, 1}, {0, 3}, {1, 0}, {1, 2}, {2, 1}, {3, 2}} {
			x, length := plainTableau(size[0], size[1]), size[0]+size[1]
			for _, costs := range [][]impl.Rat{slices.Repeat(wholes(0), length), slices.Repeat(wholes(1), length)} {
				for place := range length {
					wantCosts(t, x, with(costs, place, bad), nil, false)
				}
				for i := range x.Rows {
					for j := range x.Rows[i] {
						wantCosts(t, changed(x, func(x *impl.Tableau) { x.Rows[i][j] = bad }), costs, nil, false)
					}
				}
			}
		}
	}
}

// costCase is a column of a tableau with three rows, with its own cost, those of
// the columns of Basis, and its reduced cost.
type costCase struct {
	cost            impl.Rat
	ofBasis, column []impl.Rat
	want            impl.Rat
	ok              bool
}

func costCases() []costCase {
	const most = greatestPart
	ones, none := wholes(1, 1, 1), impl.Rat{}
	return []costCase{
		{pair(most, 1), ones, wholes(1, 2, 3), pair(most-6, 1), true},
		{pair(most, 1), ones, wholes(0, 0, -1), none, false},
		{pair(-most, 1), ones, wholes(0, 1, 0), none, false},
		// The order of the rows decides.
		{pair(most, 1), ones, wholes(1, -1, 0), pair(most, 1), true},
		{pair(most, 1), ones, wholes(-1, 1, 0), none, false},
		{pair(most, 1), ones, wholes(0, -1, 1), none, false},
		{pair(-most, 1), ones, wholes(-1, 0, 1), pair(-most, 1), true},
		{pair(-most, 1), ones, wholes(1, 0, -1), none, false},
		{pair(1, 2), ones, parts(pair(1, 2), pair(1, most-1), pair(-1, 2)), none, false},
		{pair(1, 2), ones, parts(pair(1, 2), pair(0, 1), pair(1, most-1)), pair(-1, most-1), true},
		{pair(1, 2), ones, parts(pair(1, most-1), pair(0, 1), pair(1, 2)), none, false},
		// The terms have no sum that fits, but can be subtracted, or the reverse.
		{pair(most, 1), ones, wholes(most, most, -1), pair(1-most, 1), true},
		{pair(most, 1), ones, wholes(most, most, 1), none, false},
		{pair(0, 1), ones, wholes(-most, -1, 1), none, false},
		// The products must fit.
		{pair(0, 1), wholes(2, 1, 1), wholes(most/2, 0, 0), pair(-most, 1), true},
		{pair(most, 1), wholes(2, 1, 1), wholes(most, 0, 0), none, false},
		{pair(-most, 1), wholes(1, 1, -2), wholes(0, 0, most), none, false},
		{pair(1, 1024), parts(pair(1, 1), pair(-1, 2), pair(1, 1)), parts(pair(0, 1), pair(1, most), pair(0, 1)), none, false},
		{pair(0, 1), parts(pair(1, most), pair(1, 1), pair(1, 1)), wholes(most, 0, 0), pair(-1, 1), true},
		// The numerator before reduction is too great.
		{pair(most-1, most), ones, parts(pair(-1, most), pair(0, 1), pair(0, 1)), pair(1, 1), true},
		{pair(most-1, most), ones, parts(pair(-3, most), pair(0, 1), pair(0, 1)), none, false},
	}
}

func TestCostRowWhereSumsDoNotFit(t *testing.T) {
	for _, c := range costCases() {
		for j := range 3 {
			// The columns of Basis are after the one with the cost.
			x := impl.Tableau{Cols: 3, Basis: []int{3, 4, 5}}
			for i := range 3 {
				row := slices.Repeat(wholes(0), 7)
				row[j], row[3+i] = c.column[i], pair(1, 1)
				x.Rows = append(x.Rows, row)
			}
			cost := slices.Concat(with(wholes(0, 0, 0), j, c.cost), c.ofBasis)
			got, ok := callCosts(t, x, cost)
			want, _ := definedCosts(x, cost)
			wantVector(t, fmt.Sprint("CostRow", x, cost), got, ok, want, c.ok)
			if ok && got[j] != c.want {
				t.Errorf("CostRow(%v, %v) = %v; want %v in place %d", x, cost, got, c.want, j)
			}
		}
	}
}

// TestCostRowWhereTheLastSumDoesNotFit examines the last column, whose own cost
// is 0.
func TestCostRowWhereTheLastSumDoesNotFit(t *testing.T) {
	const most = greatestPart
	for _, c := range []struct {
		right []int
		ok    bool
	}{
		{[]int{most, 0}, true}, {[]int{-most, 0}, true}, {[]int{most, 1}, false}, {[]int{-most, -1}, false},
		{[]int{most, -1}, true}, {[]int{most, -most}, true}, {[]int{most - 1, 1}, true}, {[]int{1, most}, false},
	} {
		x := tableau(0, []int{0, 1}, wholes(1, 0, c.right[0]), wholes(0, 1, c.right[1]))
		want := wholes(0, 0, -c.right[0]-c.right[1])
		if !c.ok {
			want = nil
		}
		wantCosts(t, x, wholes(1, 1), want, c.ok)
	}
}

func TestSolutionOfKnownSolutions(t *testing.T) {
	most, bad := pair(greatestPart, 1), pair(2, 4)
	for _, c := range []struct {
		x    impl.Tableau
		want []impl.Rat
	}{
		{saleStart(), wholes(0, 0, 0, 0, 4, 6)},
		{changed(saleStart(), func(x *impl.Tableau) { x.Basis = []int{5, 4} }), wholes(0, 0, 0, 0, 6, 4)},
		{changed(saleStart(), func(x *impl.Tableau) { x.Basis = []int{0, 3} }), wholes(4, 0, 0, 6, 0, 0)},
		{changed(saleStart(), func(x *impl.Tableau) { x.Basis = []int{5, 0} }), wholes(6, 0, 0, 0, 0, 4)},
		{tableau(0, []int{0}, wholes(1, -3)), wholes(-3)},
		{tableau(0, []int{0, 1}, wholes(1, 0, 3), wholes(0, 1, 0)), wholes(3, 0)},
		{tableau(1, []int{0}, parts(pair(1, 1), pair(5, 1), pair(-7, 2))), parts(pair(-7, 2), pair(0, 1))},
		{tableau(1, []int{1}, parts(pair(1, 1), pair(5, 1), most)), parts(pair(0, 1), most)},
		// Fractions are not computed, so they need not be valid.
		{tableau(1, []int{1}, parts(bad, bad, bad)), parts(pair(0, 1), bad)},
		{tableau(1, []int{0}, parts(impl.Rat{}, bad, impl.Rat{})), parts(impl.Rat{}, pair(0, 1))},
		// Of rows with the same column, the last one counts.
		{tableau(0, []int{1, 1}, wholes(1, 0, 3), wholes(0, 1, 4)), wholes(0, 4)},
		{tableau(0, []int{0, 0, 0}, wholes(1, 0, 0, 3), wholes(0, 1, 0, 4), wholes(0, 0, 1, 5)), wholes(5, 0, 0)},
		// There are no rows.
		{impl.Tableau{}, nil},
		{tableau(3, nil), wholes(0, 0, 0)},
	} {
		wantSolution(t, c.x, c.want)
	}
	for _, cols := range []int{1, 999, greatestTableauCols} {
		wantSolution(t, tableau(cols, nil), slices.Repeat(wholes(0), cols))
	}
}

func wantEqualTableaus(t *testing.T, a, b impl.Tableau, want bool) {
	t.Helper()
	guard := func(x impl.Tableau) (impl.Tableau, func(t *testing.T, call string)) {
		g := guardTableau(x)
		return g.given, g.wantUnchanged
	}
	equality[impl.Tableau]{"EqualTableau", impl.EqualTableau, guard, hollowTableau}.want(t, a, b, want)
}

func TestEqualTableauComparesEveryField(t *testing.T) {
	strange := tableau(math.MinInt, []int{-5, math.MaxInt}, badRats(), nil, strangeRats())
	for _, x := range []impl.Tableau{{}, saleStart(), tableau(2, nil), tableau(0, []int{0}), plainTableau(3, 2), strange} {
		wantEqualTableaus(t, x, x, true)
		wantEqualTableaus(t, x, copyTableau(x), true)
		change := func(change func(x *impl.Tableau)) {
			t.Helper()
			wantEqualTableaus(t, x, changed(x, change), false)
		}
		for _, n := range []int{1, -1, 8, 1 << 32, math.MinInt} {
			change(func(x *impl.Tableau) { x.Cols += n })
			for i := range x.Basis {
				change(func(x *impl.Tableau) { x.Basis[i] += n })
			}
		}
		change(func(x *impl.Tableau) { x.Basis = append(x.Basis, 0) })
		change(func(x *impl.Tableau) { x.Rows = append(x.Rows, nil) })
		change(func(x *impl.Tableau) { x.Rows = append(x.Rows, wholes(0, 0)) })
		if len(x.Basis) > 0 {
			change(func(x *impl.Tableau) { x.Basis = nil })
			change(func(x *impl.Tableau) { x.Basis = x.Basis[1:] })
		}
		for i, row := range x.Rows {
			for _, v := range otherVectors(row) {
				change(func(x *impl.Tableau) { x.Rows[i] = v })
			}
			change(func(x *impl.Tableau) { x.Rows = slices.Delete(x.Rows, i, i+1) })
		}
	}
}

func TestEqualTableauComparesFieldsAndOrder(t *testing.T) {
	x := tableau(1, []int{2, 1}, wholes(1, 2), wholes(3, 4))
	wantEqualTableaus(t, x, tableau(2, []int{1, 1}, wholes(1, 2), wholes(3, 4)), false)
	wantEqualTableaus(t, x, tableau(1, []int{1, 2}, wholes(1, 2), wholes(3, 4)), false)
	wantEqualTableaus(t, x, tableau(1, []int{2, 1}, wholes(3, 4), wholes(1, 2)), false)
	wantEqualTableaus(t, x, tableau(1, []int{2, 1}, wholes(1, 2, 3, 4)), false)
	wantEqualTableaus(t, x, tableau(1, []int{2, 1}, wholes(1), wholes(2, 3, 4)), false)
	// Rows without elements are rows.
	wantEqualTableaus(t, impl.Tableau{}, tableau(0, nil, nil), false)
	wantEqualTableaus(t, impl.Tableau{}, tableau(0, nil, []impl.Rat{}), false)
	wantEqualTableaus(t, tableau(0, nil, nil), tableau(0, nil, []impl.Rat{}), true)
	wantEqualTableaus(t, tableau(0, nil, nil), tableau(0, nil, nil, nil), false)
	// Fractions of the same amount are different if their fields are.
	for _, r := range []impl.Rat{pair(2, 4), pair(-1, -2), pair(1, 2)} {
		wantEqualTableaus(t, tableau(0, nil, parts(pair(1, 2))), tableau(0, nil, parts(r)), r == pair(1, 2))
	}
}

// TestVeryLargeTableaus examines arguments far beyond the limits.
func TestVeryLargeTableaus(t *testing.T) {
	const length = 100000
	zeros := slices.Repeat(wholes(0), length)
	for _, x := range []impl.Tableau{
		{Rows: make([][]impl.Rat, length), Basis: make([]int, length)},
		{Rows: make([][]impl.Rat, length), Basis: make([]int, length), Cols: -length - 1},
		{Rows: [][]impl.Rat{zeros}, Basis: []int{0}, Cols: length - 2},
		{Rows: [][]impl.Rat{zeros, zeros}, Basis: make([]int, length), Cols: 3},
		{Basis: make([]int, length), Cols: length},
		{Cols: length},
	} {
		got, ok := impl.PivotTableau(x, 0, 0)
		if ok || !isSameTableau(got, x) || !impl.EqualTableau(got, x) {
			t.Errorf("there is a pivot of %d rows and %d columns", len(x.Rows), x.Cols)
		}
		for _, costs := range [][]impl.Rat{nil, zeros, zeros[1:]} {
			if reduced, ok := impl.CostRow(x, costs); ok || reduced != nil {
				t.Errorf("there are costs of %d rows and %d columns", len(x.Rows), x.Cols)
			}
		}
		if impl.SolutionOf(x) != nil {
			t.Errorf("there is a solution of %d rows and %d columns", len(x.Rows), x.Cols)
		}
	}
	wantCosts(t, saleStart(), zeros, nil, false)
}

// TestTableausInTheSameMemory passes a tableau whose rows, and costs, overlap.
func TestTableausInTheSameMemory(t *testing.T) {
	room := wholes(1, 2, 3, 4, 5, 6)
	before := slices.Clone(room)
	x := tableau(1, []int{1, 2}, room[:4], room[:4])
	want, ok := definedPivot(copyTableau(x), 1, 0)
	got, okGot := impl.PivotTableau(x, 1, 0)
	if !ok || !okGot || !isSameTableau(got, want) {
		t.Errorf("a pivot of equal rows is %v, %t; want %v", got, okGot, want)
	}
	scribbleTableau(t, "PivotTableau of equal rows", got)
	x.Rows[1] = room[2:6]
	costs, ok := impl.CostRow(x, room[1:4])
	wantVector(t, "CostRow of its own rows", costs, ok, wholes(-13, -19, -25, -36), true)
	scribble(costs, pair(-88, 1))
	wantSolution(t, x, wholes(0, 4, 6))
	failed, ok := impl.PivotTableau(x, 1, 3)
	if ok || !isSameTableau(failed, x) {
		t.Errorf("a pivot at the last column is %v, %t", failed, ok)
	}
	scribbleTableau(t, "PivotTableau of rows that overlap", failed)
	if !slices.Equal(room, before) || !slices.Equal(x.Basis, []int{1, 2}) {
		t.Errorf("the rows %v were modified to %v", before, room)
	}
}

func TestTableausKeepNoState(t *testing.T) {
	for range 3 {
		wantStart(t, saleLP(), saleStart())
		wantStart(t, plainLP(9, 9), impl.Tableau{})
		wantNoPivot(t, saleStart(), 0, 3)
		wantPivot(t, saleStart(), 0, 4, saleStart(), true)
		wantNoPivot(t, saleStart(), 2, 0)
		wantCosts(t, saleStart(), wholes(0, 0, 0, 0, 1, 1), wholes(-2, -4, -1, -1, 0, 0, -10), true)
		wantCosts(t, saleStart(), wholes(0, 0, 0, 0, 1), nil, false)
		wantSolution(t, saleStart(), wholes(0, 0, 0, 0, 4, 6))
		wantEqualTableaus(t, saleStart(), saleStart(), true)
		wantEqualTableaus(t, saleStart(), impl.Tableau{}, false)
	}
}
