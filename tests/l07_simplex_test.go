package tests

import (
	"math"
	"slices"
	"testing"

	"loop.example/g00520/impl"
)

const greatestPivots = 1000

func TestMaxPivots(t *testing.T) {
	if impl.MaxPivots != greatestPivots {
		t.Errorf("MaxPivots = %d", impl.MaxPivots)
	}
}

// wantEntering calls EnteringColumn with guarded arguments, and with nil and
// empty slices in place of those without elements.
func wantEntering(t *testing.T, x impl.Tableau, costs []impl.Rat, last, want int) {
	t.Helper()
	g, c := guardTableau(x), guard(costs, pair(-77, 1))
	got := impl.EnteringColumn(g.given, c.given, last)
	for _, absent := range []bool{true, false} {
		if other := impl.EnteringColumn(hollowTableau(x, absent), hollow(costs, absent), last); other != want {
			got = other
		}
	}
	if got != want {
		t.Errorf("EnteringColumn(%v, %v, %d) = %d; want %d", x, costs, last, got, want)
	}
	g.wantUnchanged(t, "EnteringColumn")
	c.wantUnchanged(t, "EnteringColumn")
}

// wantLeaving does the same for LeavingRow.
func wantLeaving(t *testing.T, x impl.Tableau, col, want int) {
	t.Helper()
	g := guardTableau(x)
	got := impl.LeavingRow(g.given, col)
	for _, absent := range []bool{true, false} {
		if other := impl.LeavingRow(hollowTableau(x, absent), col); other != want {
			got = other
		}
	}
	if got != want {
		t.Errorf("LeavingRow(%v, %d) = %d; want %d", x, col, got, want)
	}
	g.wantUnchanged(t, "LeavingRow")
}

func isSameResult(a, b impl.LpResult) bool {
	return a.Status == b.Status && a.Value == b.Value && a.Pivots == b.Pivots &&
		slices.Equal(a.X, b.X) && slices.Equal(a.Y, b.Y) && slices.Equal(a.Ray, b.Ray)
}

// scribbleResult changes all memory of a result, and checks that no two of its
// vectors share any.
func scribbleResult(t *testing.T, call string, r impl.LpResult) {
	t.Helper()
	vectors := [][]impl.Rat{r.X, r.Y, r.Ray}
	for i, v := range vectors {
		scribble(v, pair(-100-i, 1))
	}
	for i, v := range vectors {
		for _, e := range v[:cap(v)] {
			if e != pair(-100-i, 1) {
				t.Errorf("%s: vector %d of the result shares memory with another one", call, i)
				return
			}
		}
	}
}

func callSolve(t *testing.T, p impl.LP) impl.LpResult {
	t.Helper()
	g := guardLP(p)
	solved := results[impl.LpResult]{copyResult, scribbleResult, isSameResult}
	return solved.callTwice(t, "SolveLP", g, func() impl.LpResult { return impl.SolveLP(g.given) })
}

// wantEvidence checks that a result is accepted by its certificates or has no
// field but the status, and that it has no field without a meaning.
func wantEvidence(t *testing.T, p impl.LP, r impl.LpResult) {
	t.Helper()
	var meant impl.LpResult
	switch r.Status {
	case 0, 4:
		meant = impl.LpResult{Status: r.Status}
	case 1:
		meant = impl.LpResult{Status: 1, X: r.X, Y: r.Y, Value: r.Value, Pivots: r.Pivots}
	case 2:
		meant = impl.LpResult{Status: 2, Y: r.Y, Pivots: r.Pivots}
	case 3:
		meant = impl.LpResult{Status: 3, X: r.X, Ray: r.Ray, Pivots: r.Pivots}
	}
	if !isSameResult(r, meant) {
		t.Errorf("the result %v of %v has a field without a meaning", r, p)
	}
	if r.Pivots < 0 || r.Pivots > greatestPivots {
		t.Errorf("the result %v of %v has %d pivots", r, p, r.Pivots)
	}
	accepted := r.Status >= 1 && r.Status <= 3
	if impl.CheckLP(p, r) != accepted || definedCheck(p, r) != accepted {
		t.Errorf("the result %v of %v is accepted: %t", r, p, !accepted)
	}
	if valid := r.Status != 0; valid != isPlainlyValidLP(p) {
		t.Errorf("the result of %v is %v", p, r)
	}
}

// wantSolve also passes nil and empty slices in place of those without elements.
func wantSolve(t *testing.T, p impl.LP, want impl.LpResult) {
	t.Helper()
	got := callSolve(t, p)
	for _, absent := range []bool{true, false} {
		if other := impl.SolveLP(hollowLP(p, absent)); !isSameResult(other, want) {
			got = other
		}
	}
	if !isSameResult(got, want) {
		t.Errorf("SolveLP(%v) = %v; want %v", p, got, want)
	}
	wantEvidence(t, p, got)
}

// after returns a result with its number of pivots.
func after(pivots int, r impl.LpResult) impl.LpResult {
	r.Pivots = pivots
	return r
}

func limit() impl.LpResult { return impl.LpResult{Status: 4} }

// definedEntering is the definition of EnteringColumn.
func definedEntering(costs []impl.Rat, last int) int {
	for j, r := range costs {
		if last <= len(costs) && j < last && isPlainlyValid(r) && r.Num < 0 {
			return j
		}
	}
	return -1
}

type candidate struct {
	quotient   impl.Rat
	basis, row int
}

// definedLeaving is the definition of LeavingRow, in integers of any size.
func definedLeaving(x impl.Tableau, col int) int {
	if !isPlainForm(x) || col < 0 || col > x.Cols+len(x.Rows)-1 {
		return -1
	}
	list := []candidate{}
	for i, row := range x.Rows {
		quotient, ok := wantedOperation("/", row[len(row)-1], row[col])
		if ok && row[col].Num > 0 {
			list = append(list, candidate{quotient, x.Basis[i], i})
		}
	}
	slices.SortStableFunc(list, func(a, b candidate) int {
		left, right := product(a.quotient.Num, b.quotient.Den), product(b.quotient.Num, a.quotient.Den)
		if order := left.Cmp(right); order != 0 {
			return order
		}
		return a.basis - b.basis
	})
	return append(list, candidate{row: -1})[0].row
}

// event is what can happen in a step while an LP is solved.
type event struct {
	what string
	step int
}

const (
	costsFail    = "CostRow fails"
	pivotFails   = "PivotTableau fails"
	pivotsRunOut = "a pivot is needed after MaxPivots"
	noRow        = "no row leaves"
	artificial   = "an artificial column is replaced"
	remains      = "an artificial column remains"
	isRejected   = "CheckLP rejects the result"
)

// walk is the definition of SolveLP, step by step, with what happens on the way.
type walk struct {
	x            impl.Tableau
	step, pivots int
	events       map[event]bool
}

func (w *walk) happens(what string) { w.events[event{what, w.step}] = true }

func (w *walk) pivot(row, col int) bool {
	if w.pivots == greatestPivots {
		w.happens(pivotsRunOut)
		return false
	}
	next, ok := definedPivot(w.x, row, col)
	if !ok {
		w.happens(pivotFails)
	}
	w.x = next
	w.pivots++
	return ok
}

// phase is step 1 or 3. It returns the last costs, and the column for which no
// row leaves.
func (w *walk) phase(step int, cost []impl.Rat) ([]impl.Rat, int, bool) {
	w.step = step
	for {
		reduced, ok := definedCosts(w.x, cost)
		if !ok {
			w.happens(costsFail)
			return nil, -1, false
		}
		col := definedEntering(reduced, w.x.Cols)
		if col < 0 {
			return reduced, -1, true
		}
		row := definedLeaving(w.x, col)
		if row < 0 {
			w.happens(noRow)
			return reduced, col, true
		}
		if !w.pivot(row, col) {
			return nil, -1, false
		}
	}
}

func (w *walk) replace() bool {
	w.step = 2
	for i := range w.x.Rows {
		if w.x.Basis[i] < w.x.Cols {
			continue
		}
		col := 0
		for col < w.x.Cols && w.x.Rows[i][col] == pair(0, 1) {
			col++
		}
		if col == w.x.Cols {
			w.happens(remains)
			continue
		}
		w.happens(artificial)
		if !w.pivot(i, col) {
			return false
		}
	}
	return true
}

// duals are the costs of the artificial columns minus their reduced ones.
func (w *walk) duals(b []int, cost impl.Rat, reduced []impl.Rat) []impl.Rat {
	var y []impl.Rat
	for i, n := range b {
		r, _ := wantedOperation("-", cost, reduced[w.x.Cols+i])
		if n < 0 {
			r.Num = -r.Num
		}
		y = append(y, r)
	}
	return y
}

func (w *walk) solve(p impl.LP) (impl.LpResult, bool) {
	rows, cols := len(p.A), len(p.C)
	reduced, _, ok := w.phase(1, slices.Concat(slices.Repeat(wholes(0), cols), slices.Repeat(wholes(1), rows)))
	if ok && reduced[cols+rows].Num < 0 {
		return after(w.pivots, infeasible(w.duals(p.B, pair(1, 1), reduced)...)), true
	}
	if !ok || !w.replace() {
		return impl.LpResult{}, false
	}
	reduced, col, ok := w.phase(3, slices.Concat(p.C, slices.Repeat(wholes(0), rows)))
	if !ok {
		return impl.LpResult{}, false
	}
	x, ray := slices.Repeat(wholes(0), cols), slices.Repeat(wholes(0), cols)
	for i, j := range w.x.Basis {
		if j < cols {
			x[j] = w.x.Rows[i][cols+rows]
		}
	}
	if col < 0 {
		last := reduced[cols+rows]
		return after(w.pivots, optimal(x, w.duals(p.B, pair(0, 1), reduced), pair(-last.Num, last.Den))), true
	}
	ray[col] = pair(1, 1)
	for i, j := range w.x.Basis {
		if j < cols {
			ray[j] = pair(-w.x.Rows[i][col].Num, w.x.Rows[i][col].Den)
		}
	}
	return after(w.pivots, unbounded(x, ray)), true
}

// definedSolve is the definition of SolveLP, with the events.
func definedSolve(p impl.LP) (impl.LpResult, map[event]bool) {
	w := walk{x: definedStart(p), events: map[event]bool{}}
	if !isPlainlyValidLP(p) {
		return impl.LpResult{}, w.events
	}
	r, ok := w.solve(p)
	if ok && !definedCheck(p, r) {
		w.happens(isRejected)
		ok = false
	}
	if !ok {
		r = limit()
	}
	return r, w.events
}

// tally counts statuses and events of many LPs.
type tally struct {
	statuses map[int]int
	events   map[event]int
}

func newTally() tally { return tally{map[int]int{}, map[event]int{}} }

// wantSolved compares SolveLP with its definition.
func (n tally) wantSolved(t *testing.T, p impl.LP) impl.LpResult {
	t.Helper()
	want, events := definedSolve(p)
	wantSolve(t, p, want)
	n.statuses[want.Status]++
	for e := range events {
		n.events[e]++
	}
	return want
}

func (n tally) wantStatuses(t *testing.T, least int, statuses ...int) {
	t.Helper()
	for _, status := range statuses {
		if n.statuses[status] < least {
			t.Errorf("the status %d occurs too seldom: %v", status, n.statuses)
		}
	}
}

func (n tally) wantEvents(t *testing.T, least int, events ...event) {
	t.Helper()
	for _, e := range events {
		if n.events[e] < least {
			t.Errorf("%v occurs too seldom: %v", e, n.events)
		}
	}
}

// firstExcept is the least place that is another one.
func firstExcept(place int) int {
	if place == 0 {
		return 1
	}
	return 0
}

func TestEnteringColumnKnownColumns(t *testing.T) {
	least := parts(pair(0, 1), pair(3, 1), pair(-1, greatestPart), pair(-greatestPart, 1), pair(0, 1))
	for _, c := range []struct {
		costs      []impl.Rat
		last, want int
	}{
		// The reduced costs are 0, above 0 and below 0.
		{wholes(0), 1, -1}, {wholes(1), 1, -1}, {wholes(-1), 1, 0},
		{wholes(0, 0, 0), 3, -1}, {wholes(0, 5, 0), 3, -1}, {wholes(0, 5, -1), 3, 2},
		{parts(pair(1, greatestPart), pair(-1, greatestPart)), 2, 1},
		// Of several below 0, it is not the least one that counts.
		{wholes(-1, -5, -3), 3, 0}, {wholes(4, -1, -5, -1), 4, 1}, {wholes(-2, -2), 2, 0},
		{least, 5, 2}, {least, 4, 2}, {least, 3, 2}, {least, 2, -1}, {least, 1, -1},
		// last is at 0, below 0, at the number of costs, and beyond.
		{wholes(-1, -1), 0, -1}, {wholes(-1, -1), -1, -1}, {wholes(-1, -1), -2, -1}, {wholes(-1, -1), math.MinInt, -1},
		{wholes(-1, -1), 1, 0}, {wholes(-1, -1), 2, 0}, {wholes(-1, -1), 3, -1}, {wholes(-1, -1), 4, -1},
		{wholes(-1, -1), 5, -1}, {wholes(-1, -1), 1<<32 + 1, -1}, {wholes(-1, -1), math.MaxInt, -1},
		{nil, 0, -1}, {nil, 1, -1}, {nil, 2, -1}, {nil, -1, -1}, {nil, math.MaxInt, -1}, {nil, math.MinInt, -1},
	} {
		wantEntering(t, saleStart(), c.costs, c.last, c.want)
		wantEntering(t, impl.Tableau{}, c.costs, c.last, c.want)
	}
}

func TestEnteringColumnAtEveryLast(t *testing.T) {
	for length := range 7 {
		for place := range length + 1 {
			costs := slices.Concat(slices.Repeat(wholes(0), place), slices.Repeat(wholes(-1), length-place))
			for last := -2; last <= length+3; last++ {
				want := -1
				if place < last && last <= length {
					want = place
				}
				wantEntering(t, saleStart(), costs, last, want)
			}
		}
	}
}

// TestEnteringColumnOfBadFractions has fractions that are less than 0 nowhere,
// because they are not valid.
func TestEnteringColumnOfBadFractions(t *testing.T) {
	for _, bad := range badRats() {
		for place := range 4 {
			wantEntering(t, saleStart(), with(wholes(0, 1, 2, 0), place, bad), 4, -1)
			wantEntering(t, saleStart(), with(wholes(-1, -1, -1, -1), place, bad), 4, firstExcept(place))
			wantEntering(t, saleStart(), with(wholes(0, 0, 0, 0, -1), place, bad), 5, 4)
		}
		wantEntering(t, saleStart(), parts(bad), 1, -1)
	}
}

// TestEnteringColumnExaminesNoTableau has costs that belong to no tableau here.
func TestEnteringColumnExaminesNoTableau(t *testing.T) {
	tableaus := slices.Concat(misshapenTableaus(2, 3), otherMisshapenTableaus())
	tableaus = append(tableaus, saleStart(), plainTableau(0, 1), plainTableau(1, 0), plainTableau(greatestRows, greatestCols))
	for _, x := range tableaus {
		wantEntering(t, x, wholes(0, 0, -1, -2), 4, 2)
		wantEntering(t, x, wholes(0, 0, -1, -2), 5, -1)
		wantEntering(t, x, nil, 0, -1)
		wantEntering(t, x, with(slices.Repeat(wholes(0), 2000), 1999, pair(-1, 1)), 2000, 1999)
	}
}

func TestEnteringColumnAgainstItsDefinition(t *testing.T) {
	d := newDrawn()
	found := 0
	for _, list := range append(tableauElements(), badRats(), wholes(0, 0, 0, 1, 2, -1)) {
		for range 400 {
			length := d.between(0, 6)
			costs := d.drawnTableau(1, length, list).Rows[0][:length]
			last := d.between(-1, length+1)
			want := definedEntering(costs, last)
			wantEntering(t, saleStart(), costs, last, want)
			if want >= 0 {
				found++
			}
		}
	}
	if found < 300 {
		t.Errorf("only %d columns enter", found)
	}
}

func TestLeavingRowKnownRows(t *testing.T) {
	wantLeaving(t, saleStart(), 0, 0)
	wantLeaving(t, saleStart(), 1, 1)
	wantLeaving(t, saleStart(), 2, 0)
	wantLeaving(t, saleStart(), 3, 1)
	wantLeaving(t, saleStart(), 4, 0)
	wantLeaving(t, saleStart(), 5, 1)
	// The last column has the right-hand sides, and is none that can enter.
	for _, col := range beyondPlaces(6) {
		if col < 0 || col > 5 {
			wantLeaving(t, saleStart(), col, -1)
		}
	}
	quotients := tableau(1, []int{1, 2, 3},
		parts(pair(2, 3), pair(1, 1), pair(0, 1), pair(0, 1), pair(3, 1)),
		parts(pair(1, 4), pair(0, 1), pair(1, 1), pair(0, 1), pair(1, 1)),
		parts(pair(5, 1), pair(0, 1), pair(0, 1), pair(1, 1), pair(21, 1)))
	wantLeaving(t, quotients, 0, 1)
	quotients.Rows[1][4] = pair(9, 8)
	wantLeaving(t, quotients, 0, 2)
	quotients.Rows[2][4] = pair(23, 1)
	wantLeaving(t, quotients, 0, 0)
	// A right-hand side is below 0.
	quotients.Rows[0][4] = pair(-1, 1)
	wantLeaving(t, quotients, 0, 0)
	quotients.Rows[1][4] = pair(-1, 1)
	wantLeaving(t, quotients, 0, 1)
	// There are no rows, or no columns of the LP.
	wantLeaving(t, impl.Tableau{}, 0, -1)
	wantLeaving(t, tableau(3, nil), 0, -1)
	wantLeaving(t, tableau(3, nil), 2, -1)
	wantLeaving(t, tableau(3, nil), 3, -1)
	wantLeaving(t, tableau(0, []int{0}, wholes(1, 5)), 0, 0)
	wantLeaving(t, tableau(0, []int{0}, wholes(1, 5)), 1, -1)
	wantLeaving(t, tableau(0, []int{0, 1}, wholes(1, 2, 5), wholes(3, 1, 7)), 0, 1)
	wantLeaving(t, tableau(0, []int{0, 1}, wholes(1, 2, 5), wholes(3, 1, 7)), 1, 0)
	wantLeaving(t, tableau(0, []int{0, 1}, wholes(1, 2, 5), wholes(3, 1, 7)), 2, -1)
}

// column is a tableau in which column 0 has some elements, and the last one
// some right-hand sides.
func column(basis []int, elements, right []impl.Rat) impl.Tableau {
	x := tableau(1, basis)
	for i, element := range elements {
		row := slices.Repeat(wholes(1), len(elements)+2)
		row[0], row[len(elements)+1] = element, right[i]
		x.Rows = append(x.Rows, row)
	}
	return x
}

func TestLeavingRowOfEqualQuotients(t *testing.T) {
	for _, c := range []struct {
		basis []int
		want  int
	}{
		{[]int{1, 2, 3}, 0}, {[]int{1, 3, 2}, 0}, {[]int{2, 1, 3}, 1}, {[]int{3, 1, 2}, 1}, {[]int{2, 3, 1}, 2},
		{[]int{3, 2, 1}, 2}, {[]int{3, 2, 0}, 2}, {[]int{3, 0, 2}, 1}, {[]int{0, 3, 2}, 0},
		// Rows with the same Basis
		{[]int{1, 1, 1}, 0}, {[]int{2, 1, 1}, 1}, {[]int{1, 2, 1}, 0},
	} {
		wantLeaving(t, column(c.basis, wholes(1, 1, 1), wholes(0, 0, 0)), 0, c.want)
		wantLeaving(t, column(c.basis, wholes(2, 7, 1), wholes(0, 0, 0)), 0, c.want)
		wantLeaving(t, column(c.basis, wholes(3, 6, 9), wholes(2, 4, 6)), 0, c.want)
		wantLeaving(t, column(c.basis, parts(pair(1, 2), pair(3, 1), pair(2, 5)), parts(pair(5, 1), pair(30, 1), pair(4, 1))), 0, c.want)
		wantLeaving(t, column(c.basis, wholes(3, 6, 9), wholes(-2, -4, -6)), 0, c.want)
	}
	// Two of the three are equal.
	for _, c := range []struct {
		basis []int
		right []impl.Rat
		want  int
	}{
		{[]int{3, 2, 1}, wholes(4, 4, 5), 1}, {[]int{3, 2, 1}, wholes(4, 5, 4), 2}, {[]int{3, 2, 1}, wholes(5, 4, 4), 2},
		{[]int{3, 2, 1}, wholes(4, 4, 3), 2}, {[]int{3, 2, 1}, wholes(4, 3, 4), 1}, {[]int{3, 2, 1}, wholes(3, 4, 4), 0},
		{[]int{1, 2, 3}, wholes(4, 4, 5), 0}, {[]int{1, 2, 3}, wholes(5, 4, 4), 1}, {[]int{1, 2, 3}, wholes(4, 4, 3), 2},
	} {
		wantLeaving(t, column(c.basis, wholes(1, 1, 1), c.right), 0, c.want)
	}
}

func TestLeavingRowExaminesElementsAboveZero(t *testing.T) {
	wantLeaving(t, column([]int{1}, wholes(0), wholes(4)), 0, -1)
	wantLeaving(t, column([]int{1}, wholes(-1), wholes(4)), 0, -1)
	wantLeaving(t, column([]int{1}, wholes(-1), wholes(-4)), 0, -1)
	wantLeaving(t, column([]int{1}, wholes(-1), wholes(0)), 0, -1)
	wantLeaving(t, column([]int{1}, parts(pair(-1, greatestPart)), wholes(0)), 0, -1)
	wantLeaving(t, column([]int{1}, parts(pair(1, greatestPart)), wholes(0)), 0, 0)
	for _, element := range parts(pair(0, 1), pair(-1, 1), pair(-5, 7), pair(-greatestPart, 1), pair(-1, greatestPart)) {
		for _, right := range wholes(0, 1, -1, 9, -9, greatestPart, -greatestPart) {
			for place := range 3 {
				elements, sides := with(wholes(1, 1, 1), place, element), with(wholes(5, 5, 5), place, right)
				wantLeaving(t, column([]int{1, 2, 3}, elements, sides), 0, firstExcept(place))
			}
			none := slices.Repeat(parts(element), 3)
			wantLeaving(t, column([]int{1, 2, 3}, none, slices.Repeat(parts(right), 3)), 0, -1)
		}
	}
}

func TestLeavingRowWhereQuotientsDoNotFit(t *testing.T) {
	const most = greatestPart
	for _, c := range []struct {
		element, right impl.Rat
		ok             bool
	}{
		{pair(1, 2), pair(most/2, 1), true}, {pair(1, 2), pair(most/2+1, 1), false}, {pair(1, 2), pair(-most/2-1, 1), false},
		{pair(2, 1), pair(1, most/2), true}, {pair(2, 1), pair(1, most), false}, {pair(2, 1), pair(-1, most), false},
		{pair(1, most), pair(1, 1), true}, {pair(1, most), pair(2, 1), false}, {pair(3, 1), pair(1, most), false},
		{pair(31622, 1), pair(1, 31622), true}, {pair(31623, 1), pair(1, 31623), false}, {pair(most, 1), pair(0, 1), true},
	} {
		want := -1
		if c.ok {
			want = 0
		}
		wantLeaving(t, column([]int{1}, parts(c.element), parts(c.right)), 0, want)
		// The row would have the least quotient, or the least Basis.
		for place := range 3 {
			elements, right := with(wholes(1, 1, 1), place, c.element), with(wholes(most, most, most), place, c.right)
			want := firstExcept(place)
			if c.ok {
				want = place
			}
			wantLeaving(t, column(with([]int{2, 2, 2}, place, 1), elements, right), 0, want)
		}
	}
	// No quotient fits.
	wantLeaving(t, column([]int{1, 2}, wholes(2, 3), parts(pair(1, most), pair(1, most))), 0, -1)
	wantLeaving(t, column([]int{1, 2}, wholes(2, -1), parts(pair(1, most), pair(1, 1))), 0, -1)
	// Quotients near each other are compared exactly.
	near := parts(pair(most-1, most), pair(most-2, most-1), pair(most-3, most-2))
	for _, basis := range [][]int{{1, 2, 3}, {3, 2, 1}} {
		wantLeaving(t, column(basis, wholes(1, 1, 1), near), 0, 2)
		wantLeaving(t, column(basis, wholes(1, 1, 1), parts(near[2], near[1], near[0])), 0, 0)
		wantLeaving(t, column(basis, wholes(1, 1, 1), parts(near[1], near[2], near[0])), 0, 1)
	}
}

// TestLeavingRowOfBadFractions has them as element or right-hand side of a row,
// which is not considered, and elsewhere, which makes no difference.
func TestLeavingRowOfBadFractions(t *testing.T) {
	for _, bad := range badRats() {
		for place := range 3 {
			other := firstExcept(place)
			wantLeaving(t, column([]int{1, 2, 3}, with(wholes(1, 1, 1), place, bad), wholes(5, 5, 5)), 0, other)
			wantLeaving(t, column([]int{1, 2, 3}, with(wholes(1, 1, 1), place, bad), with(wholes(5, 5, 5), place, pair(1, 1))), 0, other)
			wantLeaving(t, column([]int{1, 2, 3}, wholes(1, 1, 1), with(wholes(5, 5, 5), place, bad)), 0, other)
			x := column([]int{1, 2, 3}, wholes(1, 1, 1), with(wholes(5, 5, 5), place, pair(4, 1)))
			for i := range x.Rows {
				for j := 1; j <= 3; j++ {
					wantLeaving(t, changed(x, func(x *impl.Tableau) { x.Rows[i][j] = bad }), 0, place)
				}
			}
		}
		wantLeaving(t, column([]int{1}, parts(bad), wholes(1)), 0, -1)
		wantLeaving(t, column([]int{1}, wholes(1), parts(bad)), 0, -1)
		wantLeaving(t, column([]int{1}, parts(bad), parts(bad)), 0, -1)
	}
}

func TestLeavingRowOfMisshapenTableaus(t *testing.T) {
	list := otherMisshapenTableaus()
	for _, size := range [][2]int{{1, 1}, {1, 4}, {2, 1}, {2, 3}, {4, 2}, {greatestRows, greatestCols}} {
		list = append(list, misshapenTableaus(size[0], size[1])...)
	}
	for _, x := range list {
		for _, col := range []int{-1, 0, 1, len(x.Rows), x.Cols, x.Cols + len(x.Rows) - 1, x.Cols + len(x.Rows)} {
			wantLeaving(t, x, col, -1)
		}
	}
}

func TestLeavingRowInEveryColumn(t *testing.T) {
	for _, size := range append(tableauSizes(), [2]int{1, greatestTableauCols}, [2]int{2, greatestTableauCols}, [2]int{1, greatestTableauCols + 1}) {
		rows, cols := size[0], size[1]
		x := plainTableau(rows, cols)
		for i := range x.Rows {
			x.Rows[i][cols+rows] = pair(7*i-3, i+1)
		}
		for _, col := range []int{0, 1, rows, cols - 1, cols, cols + 1, cols + rows - 2, cols + rows - 1, cols + rows, cols + rows + 1} {
			want := definedLeaving(x, col)
			wantLeaving(t, x, col, want)
			if exists := rows > 0 && cols <= greatestTableauCols && col >= 0 && col < cols+rows; exists != (want >= 0) {
				t.Errorf("the row %d of %d leaves for column %d of %d", want, rows, col, cols+rows)
			}
		}
		for _, col := range beyondPlaces(cols + rows) {
			if col < 0 || col >= cols+rows {
				wantLeaving(t, x, col, -1)
			}
		}
	}
}

func TestLeavingRowAgainstItsDefinition(t *testing.T) {
	d := newDrawn()
	for kind, list := range append(tableauElements(), wholes(0, 1, 1, 2, -1)) {
		found, none := 0, 0
		for range 1500 {
			rows, cols := d.between(1, 4), d.between(0, 3)
			x, col := d.drawnTableau(rows, cols, list), d.between(-1, cols+rows)
			want := definedLeaving(x, col)
			wantLeaving(t, x, col, want)
			if want >= 0 {
				found++
			} else {
				none++
			}
		}
		if found < 300 || none < 100 {
			t.Errorf("%d rows of kind %d leave, %d do not", found, kind, none)
		}
	}
}

// TestPivotsAtLeavingRowsStayFeasible checks why the least quotient counts: no
// right-hand side becomes negative.
func TestPivotsAtLeavingRowsStayFeasible(t *testing.T) {
	d := newDrawn()
	pivots := 0
	for _, size := range [][2]int{{1, 2}, {2, 3}, {3, 5}, {5, 8}, {greatestRows, greatestCols}} {
		for range 30 {
			x := impl.StartTableau(lp(d.rows(size[0], size[1]), d.ints(size[0], -9, 9), slices.Repeat(wholes(0), size[1])))
			for range 8 {
				col := d.Intn(size[0] + size[1])
				next, ok := impl.PivotTableau(x, impl.LeavingRow(x, col), col)
				if !ok {
					continue
				}
				pivots++
				for _, row := range next.Rows {
					if row[len(row)-1].Num < 0 {
						t.Errorf("the pivot of %v at column %d leads to %v", x, col, next)
					}
				}
				x = next
			}
		}
	}
	if pivots < 500 {
		t.Errorf("only %d pivots", pivots)
	}
}

func TestSolveLPKnownResults(t *testing.T) {
	half := pair(1, 2)
	wantSolve(t, saleLP(), after(2, saleResult()))
	wantSolve(t, conflictLP(), after(2, conflictResult()))
	wantSolve(t, endlessLP(), after(2, endlessResult()))
	for _, c := range []struct {
		p      impl.LP
		pivots int
		want   impl.LpResult
	}{
		{lp([][]int{{2}}, []int{1}, wholes(3)), 1, optimal(parts(half), parts(pair(3, 2)), pair(3, 2))},
		{lp([][]int{{1, 1, 1}}, []int{4}, wholes(-1, -2, 0)), 2, optimal(wholes(0, 4, 0), wholes(-2), pair(-8, 1))},
		{lp([][]int{{1, 1, 1}}, []int{4}, wholes(-2, -1, 0)), 1, optimal(wholes(4, 0, 0), wholes(-2), pair(-8, 1))},
		// B is below 0, so that the sign of Y changes.
		{lp([][]int{{-2}}, []int{-1}, wholes(3)), 1, optimal(parts(half), parts(pair(-3, 2)), pair(3, 2))},
		{lp([][]int{{1, -1}, {1, 1}}, []int{-1, 3}, wholes(2, 1)), 2, optimal(wholes(1, 2), parts(half, pair(3, 2)), pair(4, 1))},
		{lp([][]int{{1, 1}}, []int{-1}, wholes(0, 0)), 0, infeasible(wholes(-1)...)},
		{lp([][]int{{-1, -1}}, []int{1}, wholes(0, 0)), 0, infeasible(wholes(1)...)},
		{lp([][]int{{1}, {1}}, []int{2, -3}, wholes(0)), 0, infeasible(wholes(1, -1)...)},
		{lp([][]int{{1}, {-1}}, []int{2, -3}, wholes(0)), 1, infeasible(wholes(-1, -1)...)},
		{lp([][]int{{1, -1}}, []int{1}, wholes(-1, 0)), 1, unbounded(wholes(1, 0), wholes(1, 1))},
		{lp([][]int{{-1, 1}}, []int{-1}, wholes(-1, 0)), 1, unbounded(wholes(1, 0), wholes(1, 1))},
		{lp([][]int{{2, -3}}, []int{1}, wholes(0, -1)), 1, unbounded(parts(half, pair(0, 1)), parts(pair(3, 2), pair(1, 1)))},
		{lp([][]int{{2, -3, 0}}, []int{1}, wholes(0, 0, -1)), 1, unbounded(parts(half, pair(0, 1), pair(0, 1)), wholes(0, 0, 1))},
	} {
		wantSolve(t, c.p, after(c.pivots, c.want))
	}
}

func TestSolveLPWithoutRowsOrColumns(t *testing.T) {
	zero := pair(0, 1)
	wantSolve(t, impl.LP{}, optimal(nil, nil, zero))
	wantSolve(t, lp(nil, nil, wholes(0, 2)), optimal(wholes(0, 0), nil, zero))
	wantSolve(t, lp(nil, nil, wholes(0, -2)), unbounded(wholes(0, 0), wholes(0, 1)))
	wantSolve(t, lp(nil, nil, wholes(1, -1, -2)), unbounded(wholes(0, 0, 0), wholes(0, 1, 0)))
	wantSolve(t, lp([][]int{{}}, []int{0}, nil), optimal(nil, wholes(0), zero))
	wantSolve(t, lp([][]int{{}}, []int{3}, nil), infeasible(wholes(1)...))
	wantSolve(t, lp([][]int{{}}, []int{-3}, nil), infeasible(wholes(-1)...))
	wantSolve(t, lp([][]int{{}, {}}, []int{0, 0}, nil), optimal(nil, wholes(0, 0), zero))
	wantSolve(t, lp([][]int{{}, {}, {}}, []int{0, -3, 2}, nil), infeasible(wholes(1, -1, 1)...))
	most := slices.Repeat([]int{greatestFactor}, greatestRows)
	wantSolve(t, lp(make([][]int, greatestRows), most, nil), infeasible(slices.Repeat(wholes(1), greatestRows)...))
	none := slices.Repeat(wholes(0), greatestCols)
	wantSolve(t, lp(nil, nil, none), optimal(none, nil, zero))
	wantSolve(t, lp(nil, nil, with(none, greatestCols-1, pair(-1, 1))), unbounded(none, with(none, greatestCols-1, pair(1, 1))))
}

// TestSolveLPWhereBIsZero has a solution without a pivot, but it pivots where a
// column enters in step 1, and in step 2 also at an element below 0.
func TestSolveLPWhereBIsZero(t *testing.T) {
	zeros, zero := wholes(0, 0), pair(0, 1)
	for _, c := range []struct {
		p      impl.LP
		pivots int
		want   impl.LpResult
	}{
		{lp([][]int{{1, -1}}, []int{0}, zeros), 1, optimal(zeros, wholes(0), zero)},
		{lp([][]int{{-1, 1}}, []int{0}, wholes(1, 0)), 1, optimal(zeros, wholes(0), zero)},
		{lp([][]int{{1, 1}}, []int{0}, wholes(-1, -2)), 2, optimal(zeros, wholes(-2), zero)},
		{lp([][]int{{1, 1}}, []int{0}, wholes(-2, -1)), 1, optimal(zeros, wholes(-2), zero)},
		{lp([][]int{{1, -1}}, []int{0}, wholes(-1, 0)), 1, unbounded(zeros, wholes(1, 1))},
		// Step 2
		{lp([][]int{{-1, -1}}, []int{0}, wholes(1, 2)), 1, optimal(zeros, wholes(-1), zero)},
		{lp([][]int{{-1, -1}}, []int{0}, wholes(2, 1)), 2, optimal(zeros, wholes(-1), zero)},
		{lp([][]int{{-1, -1}}, []int{0}, wholes(-1, 0)), 1, optimal(zeros, wholes(1), zero)},
		{lp([][]int{{0, -1}}, []int{0}, wholes(0, 3)), 1, optimal(zeros, wholes(-3), zero)},
		{lp([][]int{{0, -1}}, []int{0}, wholes(-1, 3)), 1, unbounded(zeros, wholes(1, 0))},
		{lp([][]int{{1, 0, 0}, {0, -2, -2}}, []int{3, 0}, wholes(0, 5, 4)), 3, optimal(wholes(3, 0, 0), wholes(0, -2), zero)},
		{lp([][]int{{-1, -2}, {-1, -3}}, []int{0, 0}, zeros), 2, optimal(zeros, zeros, zero)},
	} {
		wantSolve(t, c.p, after(c.pivots, c.want))
	}
}

// TestSolveLPOfDependentRows has artificial columns that remain in Basis.
func TestSolveLPOfDependentRows(t *testing.T) {
	half := pair(1, 2)
	for _, c := range []struct {
		p      impl.LP
		pivots int
		want   impl.LpResult
	}{
		// The row is 0 in all columns of the LP from the start.
		{lp([][]int{{0, 0}}, []int{0}, wholes(1, 0)), 0, optimal(wholes(0, 0), wholes(0), pair(0, 1))},
		{lp([][]int{{0, 0}}, []int{0}, wholes(0, -1)), 0, unbounded(wholes(0, 0), wholes(0, 1))},
		{lp([][]int{{0, 0}}, []int{2}, wholes(0, -1)), 0, infeasible(wholes(1)...)},
		{lp([][]int{{0, 0}}, []int{-2}, wholes(0, -1)), 0, infeasible(wholes(-1)...)},
		{lp([][]int{{0, 0}, {1, 2}}, []int{0, 4}, wholes(3, 4)), 2, optimal(wholes(0, 2), wholes(0, 2), pair(8, 1))},
		{lp([][]int{{1, 2}, {0, 0}}, []int{4, 0}, wholes(3, 4)), 2, optimal(wholes(0, 2), wholes(2, 0), pair(8, 1))},
		// It becomes 0 by pivots.
		{lp([][]int{{1, 1}, {2, 2}}, []int{2, 4}, wholes(1, 3)), 1, optimal(wholes(2, 0), wholes(1, 0), pair(2, 1))},
		{lp([][]int{{2, 2}, {1, 1}}, []int{4, 2}, wholes(1, 3)), 1, optimal(wholes(2, 0), parts(half, pair(0, 1)), pair(2, 1))},
		{lp([][]int{{1, 1}, {-1, -1}}, []int{2, -2}, wholes(1, 3)), 1, optimal(wholes(2, 0), wholes(1, 0), pair(2, 1))},
		{lp([][]int{{-1, -1}, {1, 1}}, []int{-2, 2}, wholes(1, 3)), 1, optimal(wholes(2, 0), wholes(-1, 0), pair(2, 1))},
		{lp([][]int{{1, 1}, {1, 1}}, []int{2, 2}, wholes(3, 1)), 2, optimal(wholes(0, 2), wholes(1, 0), pair(2, 1))},
		{lp([][]int{{1, -1}, {1, -1}}, []int{2, 2}, wholes(-1, 0)), 1, unbounded(wholes(2, 0), wholes(1, 1))},
		{lp([][]int{{1, -1}, {-2, 2}}, []int{2, -4}, wholes(0, -1)), 1, unbounded(wholes(2, 0), wholes(1, 1))},
		{lp([][]int{{1, 1}, {2, 2}}, []int{2, 5}, wholes(1, 3)), 1, infeasible(wholes(-2, 1)...)},
		{lp([][]int{{1, 1}, {2, 2}}, []int{3, 5}, wholes(1, 3)), 1, infeasible(parts(pair(1, 1), pair(-1, 2))...)},
		// A row depends on two others.
		{lp([][]int{{1, 0, 1}, {0, 1, 1}, {1, 1, 2}}, []int{1, 2, 3}, wholes(0, 0, -1)), 3,
			optimal(wholes(0, 1, 1), wholes(-1, 0, 0), pair(-1, 1))},
	} {
		wantSolve(t, c.p, after(c.pivots, c.want))
	}
}

// TestSolveLPWhereRowsTie would pivot without end if the row with the least
// Basis did not leave.
func TestSolveLPWhereRowsTie(t *testing.T) {
	cycle := lp([][]int{{4, 0, 0, 1, -32, -4, 36}, {0, 2, 0, 1, -24, -1, 6}, {0, 0, 1, 0, 0, 1, 0}}, []int{0, 0, 1},
		parts(pair(0, 1), pair(0, 1), pair(0, 1), pair(-3, 4), pair(20, 1), pair(-1, 2), pair(6, 1)))
	r := newTally().wantSolved(t, cycle)
	if r.Value != pair(-5, 4) || !slices.Equal(r.X, parts(pair(3, 4), pair(0, 1), pair(0, 1), pair(1, 1), pair(0, 1), pair(1, 1), pair(0, 1))) {
		t.Errorf("the result of %v is %v", cycle, r)
	}
	for rows := 1; rows <= greatestRows; rows++ {
		for _, cols := range []int{1, 2, rows, 2 * rows, greatestCols} {
			for _, cost := range wholes(-1, 0, 1) {
				p := impl.LP{C: slices.Repeat(parts(cost), cols)}
				for i := range rows {
					p.A = append(p.A, slices.Repeat([]int{1 + i%2}, cols))
					p.B = append(p.B, 3+3*(i%2))
				}
				want := after(1, optimal(with(slices.Repeat(wholes(0), cols), 0, pair(3, 1)),
					with(slices.Repeat(wholes(0), rows), 0, cost), pair(3*cost.Num, 1)))
				wantSolve(t, p, want)
			}
		}
	}
}

func TestSolveLPOfOtherLPs(t *testing.T) {
	bad := impl.LpResult{}
	for _, size := range [][2]int{{1, 1}, {1, 2}, {2, 1}, {3, 3}, {7, 69}, {greatestRows, greatestCols}} {
		for _, p := range misshapenLPs(size[0], size[1]) {
			wantSolve(t, p, bad)
		}
		for _, n := range []int{greatestFactor + 1, -greatestFactor - 1, 1 << 32, math.MaxInt, math.MinInt} {
			for i := range size[0] {
				p := plainLP(size[0], size[1])
				p.B[i] = n
				wantSolve(t, p, bad)
				p = plainLP(size[0], size[1])
				p.A[i][size[1]-1] = n
				wantSolve(t, p, bad)
			}
		}
		for _, r := range badRats() {
			for j := range min(size[1], 3) {
				p := plainLP(size[0], size[1])
				p.C[j] = r
				wantSolve(t, p, bad)
			}
		}
	}
	for _, size := range [][2]int{{0, greatestCols + 1}, {greatestRows + 1, 0}, {greatestRows + 1, 3}, {3, greatestCols + 1}} {
		wantSolve(t, plainLP(size[0], size[1]), bad)
	}
	for _, p := range []impl.LP{
		{B: []int{1}}, {A: [][]int{{}}}, {A: [][]int{{1}}, B: []int{1}}, {A: [][]int{nil}, B: []int{1}, C: wholes(1)},
		{A: [][]int{nil, {1}}, B: []int{1, 1}, C: wholes(1)}, {C: parts(impl.Rat{})},
	} {
		wantSolve(t, p, bad)
	}
	const length = 100000
	zeros := slices.Repeat(wholes(0), length)
	for _, p := range []impl.LP{
		{C: zeros}, {A: make([][]int, length), B: make([]int, length)},
		{A: [][]int{make([]int, length)}, B: []int{0}, C: zeros},
	} {
		if r := impl.SolveLP(p); !isSameResult(r, bad) {
			t.Errorf("the result of %d rows and %d columns has the status %d", len(p.A), len(p.C), r.Status)
		}
	}
}

// narrowLP has a least quotient of 1 / (4999 * 4993 * q), which fits if q is at
// most 40, in a row whose artificial column is left after two pivots.
func narrowLP(q int) impl.LP {
	return lp([][]int{{4999, 0, 0}, {0, 4993, 0}, {1, 1, q}}, []int{4166, 832, 1}, wholes(0, 0, 0))
}

// narrowCostLP has this quotient in step 3, for the last column.
func narrowCostLP(q int) impl.LP {
	return lp([][]int{{4999, 0, 0, 0}, {0, 4993, 0, 0}, {1, 1, 1, q}}, []int{4166, 832, 1}, wholes(0, 0, 0, -1))
}

// wantLimit also checks that an event occurs.
func wantLimit(t *testing.T, p impl.LP, step int, what string) {
	t.Helper()
	want, events := definedSolve(p)
	if want.Status != 4 || !events[event{what, step}] {
		t.Errorf("the result of %v is %v, with the events %v", p, want, events)
	}
	wantSolve(t, p, limit())
}

func wantStatus(t *testing.T, p impl.LP, status int) {
	t.Helper()
	want, _ := definedSolve(p)
	if want.Status != status {
		t.Errorf("the result of %v is %v", p, want)
	}
	wantSolve(t, p, want)
}

func TestSolveLPWhereNoQuotientFits(t *testing.T) {
	x0, x1 := pair(4166, 4999), pair(832, 4993)
	wantSolve(t, narrowLP(40), after(3, optimal(parts(x0, x1, pair(1, 4999*4993*40)), wholes(0, 0, 0), pair(0, 1))))
	wantLimit(t, narrowLP(41), 1, noRow)
	wantLimit(t, narrowLP(5000), 1, noRow)
	wantStatus(t, narrowCostLP(40), 1)
	wantLimit(t, narrowCostLP(41), 3, isRejected)
	// Another row leaves in place of the one whose quotient does not fit, so that
	// a right-hand side becomes negative until step 2.
	mended := lp([][]int{{4999, 0, 0, 0, 0}, {0, 4993, 0, 0, 0}, {1, 1, 42, -1, 0}, {0, 0, 2, 0, 1}}, []int{4166, 832, 1, 1}, wholes(0, 0, 0, 0, 0))
	wantSolve(t, mended, after(4, optimal(parts(x0, x1, pair(1, 2), pair(21*4999*4993-1, 4999*4993), pair(0, 1)), wholes(0, 0, 0, 0), pair(0, 1))))
	// Mostly, it stays so.
	for q := 39; q <= 42; q++ {
		p := narrowLP(q)
		p.A, p.B, p.C = append(p.A, []int{0, 0, 1}), append(p.B, 1), wholes(0, 0, 0)
		want, _ := definedSolve(p)
		if accepted := want.Status != 4; accepted != (q <= 40) {
			t.Errorf("the result of %v is %v", p, want)
		}
		wantSolve(t, p, want)
	}
}

func TestSolveLPWhereCostsDoNotFit(t *testing.T) {
	const most = greatestPart
	one := [][]int{{1, 1}}
	wantStatus(t, lp(one, []int{1}, parts(pair(1, most), pair(1, most/2))), 1)
	wantLimit(t, lp(one, []int{1}, parts(pair(1, most), pair(1, most-1))), 3, costsFail)
	wantStatus(t, lp(one, []int{1}, wholes(most, 0)), 1)
	wantLimit(t, lp(one, []int{1}, wholes(most, -1)), 3, costsFail)
	wantStatus(t, lp(one, []int{1}, wholes(-most, 0)), 1)
	wantLimit(t, lp(one, []int{1}, wholes(-most, 1)), 3, costsFail)
	wantLimit(t, lp(one, []int{2}, wholes(-most, 0)), 3, costsFail)
	// In step 1, the rows have different denominators.
	for _, c := range []struct{ a, b, c, status int }{{5, 7, 11, 2}, {97, 101, 103, 2}, {4999, 4993, 4987, 4}} {
		p := lp([][]int{{c.a, 0, 0}, {0, c.b, 0}, {0, 0, c.c}, {1, 1, 0}, {0, 0, 1}}, []int{4, 4, 4, 5, 5}, wholes(0, 0, 0))
		if c.status == 4 {
			wantLimit(t, p, 1, costsFail)
		} else {
			wantStatus(t, p, c.status)
		}
	}
}

// TestSolveLPWherePivotsDoNotFit has the same LPs with smaller numbers as well.
func TestSolveLPWherePivotsDoNotFit(t *testing.T) {
	for _, c := range []struct{ number, status int }{{49, 1}, {4999, 4}} {
		n := c.number
		first := lp([][]int{{n, -1}, {-1, n}}, []int{1, 2}, wholes(0, 0))
		second := lp([][]int{{-n, -1}, {1, -n}}, []int{0, 0}, wholes(0, 0))
		third := lp([][]int{{0, n, 1}, {1, 2, n}}, []int{2, 1}, wholes(2, -1, -1))
		for i, p := range []impl.LP{first, second, third} {
			if c.status == 4 {
				wantLimit(t, p, i+1, pivotFails)
			} else {
				wantStatus(t, p, c.status)
			}
		}
	}
}

// TestSolveLPReturnsWhatIsAccepted has sums that fit for SolveLP, but not in the
// order in which CheckLP adds them.
func TestSolveLPReturnsWhatIsAccepted(t *testing.T) {
	const most = greatestPart
	turned := [][]int{{1, 0, 0}, {0, 0, 1}, {0, 1, 0}}
	wantLimit(t, lp(turned, []int{1, 1, 1}, wholes(most, most, -most)), 3, isRejected)
	wantLimit(t, lp(turned, []int{1, 1, 1}, wholes(most, -most, most)), 3, costsFail)
	wantStatus(t, lp(turned, []int{1, 1, 1}, wholes(-most, most, most)), 1)
	straight := [][]int{{1, 0, 0}, {0, 1, 0}, {0, 0, 1}}
	wantLimit(t, lp(straight, []int{1, 1, 1}, wholes(most, most, -most)), 3, costsFail)
	wantSolve(t, lp(straight, []int{1, 1, 1}, wholes(most, -most, most)),
		after(3, optimal(wholes(1, 1, 1), wholes(most, -most, most), pair(most, 1))))
	wantStatus(t, lp([][]int{{0, 49}, {46, -1}, {47, -1}}, []int{2, 0, 0}, wholes(-1, -1)), 2)
	wantLimit(t, lp([][]int{{0, 4973}, {4993, -1}, {4999, -1}}, []int{2, 0, 0}, wholes(-1, -1)), 1, isRejected)
}

// arc leads from a node of a network to another one, or to its root (-1).
type arc struct{ from, to, cost int }

// counterArcs lead through a network that needs many pivots. Its nodes come in
// pairs: the first pair has arcs to the root, each other one to both nodes of
// the pair before. Whichever of these is nearer to the root in the end, both
// nodes of a pair go through all their arcs to it, in turns, and come nearer to
// the root by one gap each time. So a pair makes 2 * digit pivots for each pivot
// of the pair before, like the digits of a counter. A single node, which comes
// last, makes as many pivots as it has arcs.
func counterArcs(digits []int, single int) []arc {
	var arcs []arc
	gap := 1
	// The arcs of the last pair come first, because the least column enters.
	for i := len(digits) - 1; i >= 0; i-- {
		targets := []int{2*i - 2, 2*i - 1}
		if i == 0 {
			targets = []int{-1}
		}
		for _, to := range targets {
			for step := range 2 * digits[i] {
				arcs = append(arcs, arc{2*i + step%2, to, -step * gap})
			}
		}
		gap *= 2 * digits[i]
	}
	for step := range single {
		arcs = append(arcs, arc{2 * len(digits), -1, -step})
	}
	return arcs
}

// counterLP asks for the cheapest flow of an amount from each node to the root.
func counterLP(amount int, digits []int, single int) impl.LP {
	var p impl.LP
	arcs := counterArcs(digits, single)
	for range 2*len(digits) + min(single, 1) {
		p.A = append(p.A, make([]int, len(arcs)))
		p.B = append(p.B, amount)
	}
	for j, a := range arcs {
		p.A[a.from][j] = 1
		if a.to >= 0 {
			p.A[a.to][j] = -1
		}
		p.C = append(p.C, pair(a.cost, 1))
	}
	return p
}

// demand returns an LP without costs, whose last row demands that those of p
// fall to a value.
func demand(p impl.LP, value int) impl.LP {
	var row []int
	for _, cost := range p.C {
		row = append(row, cost.Num)
	}
	return lp(append(p.A, row), append(p.B, value), slices.Repeat(wholes(0), len(row)))
}

// opposite has all rows with the other sign.
func opposite(p impl.LP) impl.LP {
	p = copyLP(p)
	for i, row := range p.A {
		for j := range row {
			row[j] = -row[j]
		}
		p.B[i] = -p.B[i]
	}
	return p
}

// TestCounterLPs compares small ones with the definition, and the numbers of
// their pivots with the ones that the network promises.
func TestCounterLPs(t *testing.T) {
	for _, c := range []struct {
		digits         []int
		single, pivots int
	}{{nil, 5, 5}, {[]int{1}, 0, 2}, {[]int{3}, 2, 8}, {[]int{2, 1}, 0, 12}, {[]int{2, 3, 1}, 3, 4 + 24 + 48 + 3}} {
		for _, amount := range []int{0, 1, 7} {
			p := counterLP(amount, c.digits, c.single)
			newTally().wantSolved(t, p)
			wantPivots(t, p, 1, c.pivots)
			if amount > 0 {
				newTally().wantSolved(t, opposite(p))
				wantPivots(t, opposite(p), 1, c.pivots)
			}
		}
	}
}

// wantPivots checks the status and the number of pivots of LPs whose definition
// takes too long to compute.
func wantPivots(t *testing.T, p impl.LP, status, pivots int) {
	t.Helper()
	r := callSolve(t, p)
	if r.Status != status || r.Pivots != pivots {
		t.Errorf("an LP with %d columns has the status %d after %d pivots; want %d after %d", len(p.C), r.Status, r.Pivots, status, pivots)
	}
	wantEvidence(t, p, r)
}

// counterDigits lead to 18 + 18*6 + 18*6*8 pivots.
func counterDigits() []int { return []int{9, 3, 4} }

const counterPivots = 990

// TestSolveLPStopsAfterMaxPivots needs too many pivots in step 3.
func TestSolveLPStopsAfterMaxPivots(t *testing.T) {
	for _, amount := range []int{0, 3} {
		for single := 9; single <= 11; single++ {
			p := counterLP(amount, counterDigits(), single)
			status, pivots := 1, counterPivots+single
			if pivots > greatestPivots {
				status, pivots = 4, 0
			}
			wantPivots(t, p, status, pivots)
			if amount > 0 {
				wantPivots(t, opposite(p), status, pivots)
			}
			// A column without elements enters at the end, but nothing leaves.
			for i := range p.A {
				p.A[i] = append(p.A[i], 0)
			}
			p.C = append(p.C, pair(-1, 1))
			if status == 1 {
				status = 3
			}
			wantPivots(t, p, status, pivots)
		}
	}
	wantPivots(t, counterLP(1, []int{9, 3, 5}, 0), 4, 0)
	wantPivots(t, counterLP(1, []int{2, 2, 2, 2}, 0), 1, 4+16+64+256)
	wantPivots(t, counterLP(1, []int{4, 3, 3, 3}, 0), 4, 0)
}

// TestSolveLPStopsInStepOne demands costs to which nothing falls, so that step 1
// makes the pivots of step 3, without the 2 of the last pair that come first.
func TestSolveLPStopsInStepOne(t *testing.T) {
	for single := 11; single <= 13; single++ {
		p := counterLP(0, counterDigits(), single)
		p.B[4], p.B[5] = 1, 1
		status, pivots := 2, counterPivots+single-2
		if pivots > greatestPivots {
			status, pivots = 4, 0
		}
		wantPivots(t, demand(p, -greatestFactor), status, pivots)
	}
}

// TestSolveLPStopsInStepTwo demands the least costs, so that the last row is left
// with its artificial column after step 1.
func TestSolveLPStopsInStepTwo(t *testing.T) {
	for single := 10; single <= 13; single++ {
		p := counterLP(0, counterDigits(), single)
		p.B[5], p.B[6] = 1, 1
		// The last node of the pairs comes nearer in every one of its steps.
		least := 1 - 18*6*8 - (single - 1)
		status, pivots := 1, counterPivots+single-2+1
		if pivots > greatestPivots {
			status, pivots = 4, 0
		}
		wantPivots(t, demand(p, least), status, pivots)
		// Beyond the least costs, step 2 is not reached.
		status, pivots = 2, counterPivots+single-2
		if pivots > greatestPivots {
			status, pivots = 4, 0
		}
		wantPivots(t, demand(p, least-1), status, pivots)
	}
}

// TestSolveLPOfSmallLPs solves all LPs of small sizes and numbers.
func TestSolveLPOfSmallLPs(t *testing.T) {
	n := newTally()
	var lists [][]int
	for _, v := range vectorsOver(wholes(0, 1, -1), 2) {
		lists = append(lists, []int{v[0].Num, v[1].Num})
	}
	for _, top := range lists {
		for _, cost := range lists {
			for b := -1; b <= 1; b++ {
				n.wantSolved(t, lp([][]int{top}, []int{b}, wholes(cost...)))
			}
			for _, bottom := range lists {
				for i, b := range lists {
					if cost[0] >= cost[1] || i%3 == 0 {
						n.wantSolved(t, lp([][]int{top, bottom}, b, wholes(cost...)))
					}
				}
			}
		}
	}
	n.wantStatuses(t, 100, 1, 2, 3)
	n.wantEvents(t, 100, event{noRow, 3}, event{artificial, 2}, event{remains, 2})
	if n.statuses[4] > 0 {
		t.Errorf("%d small LPs are not solved", n.statuses[4])
	}
}

// drawnLP has its numbers from lists, and sometimes rows that depend on others.
func (d drawn) drawnLP(rows, cols int, numbers, right []int, costs []impl.Rat) impl.LP {
	var p impl.LP
	for range rows {
		var row []int
		for range cols {
			row = append(row, numbers[d.Intn(len(numbers))])
		}
		p.A, p.B = append(p.A, row), append(p.B, right[d.Intn(len(right))])
	}
	if last := rows - 1; rows > 1 && d.Intn(4) == 0 {
		from, sign := d.Intn(last), 1-2*d.Intn(2)
		for j, n := range p.A[from] {
			p.A[last][j] = sign * n
		}
		p.B[last] = sign*p.B[from] + d.Intn(5)/4
	}
	for range cols {
		p.C = append(p.C, costs[d.Intn(len(costs))])
	}
	return p
}

func TestSolveLPOfDrawnLPs(t *testing.T) {
	d, n := newDrawn(), newTally()
	fractions := parts(pair(0, 1), pair(1, 2), pair(-1, 2), pair(2, 3), pair(-5, 1), pair(7, 1))
	for _, size := range [][2]int{{1, 1}, {1, 4}, {2, 3}, {3, 3}, {3, 6}, {4, 5}, {5, 9}} {
		for range 120 {
			rows, cols := size[0], size[1]
			n.wantSolved(t, d.drawnLP(rows, cols, []int{0, 1}, []int{1, 2, 3}, wholes(1, 2)))
			n.wantSolved(t, d.drawnLP(rows, cols, []int{0, 0, 1, -1}, []int{0, 0, 1}, wholes(-1, 0, 1)))
			n.wantSolved(t, d.drawnLP(rows, cols, []int{0, 1, 2, 3, -1, -2}, []int{0, 3, -4, 6}, fractions))
		}
	}
	n.wantStatuses(t, 200, 1, 2, 3)
	n.wantEvents(t, 100, event{noRow, 3}, event{artificial, 2}, event{remains, 2})
}

// TestSolveLPOfGreatLPs draws LPs with the greatest numbers of rows and columns,
// and with few of them.
func TestSolveLPOfGreatLPs(t *testing.T) {
	d, n := newDrawn(), newTally()
	for _, size := range [][2]int{{greatestRows, greatestCols}, {greatestRows, 9}, {greatestRows, 5}, {greatestRows, 1}, {1, greatestCols}, {4, 40}} {
		for range 6 {
			n.wantSolved(t, d.drawnLP(size[0], size[1], []int{0, 1}, []int{1, 2, 3}, wholes(1, 2, 3)))
			n.wantSolved(t, d.drawnLP(size[0], size[1], []int{0, 0, 1, -1}, []int{0, 1, -1}, wholes(-1, 0, 1)))
		}
	}
	n.wantStatuses(t, 5, 1, 2, 3)
}

// TestSolveLPOfLPsThatDoNotFit draws numbers and costs at which fractions fail
// in all steps.
func TestSolveLPOfLPsThatDoNotFit(t *testing.T) {
	d, n := newDrawn(), newTally()
	primes := []int{0, 0, 0, 1, 1, -1, 2, 3, 4999, 4993, -4987, 4973, -4969}
	costs := append(parts(pair(1, greatestPart), pair(1, greatestPart-1), pair(-7, 31623)), wholes(0, 1, -1, greatestPart, -greatestPart)...)
	for range 4000 {
		rows, cols := d.between(1, 3), d.between(1, 4)
		n.wantSolved(t, d.drawnLP(rows, cols, primes, []int{0, 1, 2}, wholes(-2, -1, 0, 1, 2)))
		n.wantSolved(t, d.drawnLP(rows, cols, []int{0, 0, 1, 2, -1}, []int{1, 2}, costs))
	}
	n.wantStatuses(t, 500, 1, 2, 3, 4)
	n.wantEvents(t, 1, event{noRow, 1})
	n.wantEvents(t, 5, event{costsFail, 3}, event{pivotFails, 1}, event{pivotFails, 2}, event{pivotFails, 3},
		event{isRejected, 1}, event{isRejected, 3}, event{artificial, 2}, event{remains, 2})
}

// TestSolveLPFindsWhatIsProven solves LPs whose results are known.
func TestSolveLPFindsWhatIsProven(t *testing.T) {
	d := newDrawn()
	solved := 0
	for _, size := range [][2]int{{1, 1}, {1, 2}, {2, 1}, {2, 2}, {3, 5}, {5, 3}, {4, 12}, {greatestRows, 9}} {
		for range 25 {
			for _, c := range d.cases(size[0], size[1]) {
				got := callSolve(t, c.p)
				wantEvidence(t, c.p, got)
				if got.Status == 4 {
					continue
				}
				solved++
				if got.Status != c.r.Status || c.r.Status == 1 && got.Value != c.r.Value {
					t.Errorf("SolveLP(%v) = %v, but there is %v", c.p, got, c.r)
				}
			}
		}
	}
	if solved < 450 {
		t.Errorf("only %d LPs are solved", solved)
	}
}

// TestSolveLPDoesNotDependOnSigns multiplies rows by -1 whose right-hand side is
// not 0: the same is solved, and elements of Y have the other sign.
func TestSolveLPDoesNotDependOnSigns(t *testing.T) {
	d := newDrawn()
	for range 300 {
		rows, cols := d.between(1, 4), d.between(1, 6)
		p := d.drawnLP(rows, cols, []int{0, 1, 2, -1}, []int{1, 2, 3}, wholes(0, 1, 2, -1))
		for i, b := range p.B {
			if b == 0 {
				p.B[i] = 4
			}
		}
		q := opposite(p)
		want, got := callSolve(t, p), callSolve(t, q)
		for i, r := range want.Y {
			want.Y[i] = pair(-r.Num, r.Den)
		}
		if !isSameResult(got, want) {
			t.Errorf("SolveLP(%v) = %v; want %v", q, got, want)
		}
	}
}

// TestSimplexInTheSameMemory passes an LP whose slices overlap.
func TestSimplexInTheSameMemory(t *testing.T) {
	room := []int{2, 2, 2, 2, 4}
	costs := wholes(1, 3)
	p := lp([][]int{room[:2], room[2:4], room[1:3]}, room[:3], costs)
	want, _ := definedSolve(copyLP(p))
	got := impl.SolveLP(p)
	if !isSameResult(got, want) || got.Status != 1 {
		t.Errorf("SolveLP(%v) = %v; want %v", p, got, want)
	}
	scribbleResult(t, "SolveLP of rows that overlap", got)
	if !slices.Equal(room, []int{2, 2, 2, 2, 4}) || !slices.Equal(costs, wholes(1, 3)) {
		t.Errorf("%v was modified", p)
	}
	row := wholes(1, -1, 4, 5)
	x := tableau(1, []int{1, 2}, row, row)
	if got := impl.LeavingRow(x, 0); got != 0 {
		t.Errorf("LeavingRow(%v, 0) = %d", x, got)
	}
	if got := impl.EnteringColumn(x, row, 4); got != 1 {
		t.Errorf("EnteringColumn(%v, %v, 4) = %d", x, row, got)
	}
	if !slices.Equal(row, wholes(1, -1, 4, 5)) {
		t.Errorf("%v was modified", x)
	}
}

func TestSimplexKeepsNoState(t *testing.T) {
	for range 3 {
		wantSolve(t, saleLP(), after(2, saleResult()))
		wantSolve(t, impl.LP{B: []int{1}}, impl.LpResult{})
		wantSolve(t, narrowLP(41), limit())
		wantSolve(t, conflictLP(), after(2, conflictResult()))
		wantSolve(t, endlessLP(), after(2, endlessResult()))
		wantEntering(t, saleStart(), wholes(-2, -4, -1, -1, 0, 0, -10), 4, 0)
		wantEntering(t, saleStart(), wholes(-2, -4, -1, -1, 0, 0, -10), 8, -1)
		wantLeaving(t, saleStart(), 1, 1)
		wantLeaving(t, saleStart(), 6, -1)
	}
}

// TestVeryLargeSimplexArguments examines arguments far beyond the limits.
func TestVeryLargeSimplexArguments(t *testing.T) {
	const length = 100000
	zeros := slices.Repeat(wholes(0), length)
	falling := with(zeros, length-1, pair(-1, 1))
	wantEntering(t, saleStart(), falling, length, length-1)
	wantEntering(t, saleStart(), falling, length-1, -1)
	wantEntering(t, saleStart(), falling, length+1, -1)
	for _, x := range []impl.Tableau{
		{Rows: make([][]impl.Rat, length), Basis: make([]int, length)},
		{Rows: [][]impl.Rat{falling}, Basis: []int{0}, Cols: length - 2},
		{Basis: make([]int, length), Cols: 3},
	} {
		if got := impl.LeavingRow(x, 0); got != -1 {
			t.Errorf("the row %d of %d leaves", got, len(x.Rows))
		}
	}
}
