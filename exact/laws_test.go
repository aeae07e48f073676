package exact_test

import (
	"fmt"
	"math/big"
	"slices"
	"testing"

	"dioptra/api"
	"dioptra/exact"
)

// sureDet is a determinant that must be there.
func sureDet(t *testing.T, rows [][]api.Whole) api.Whole {
	t.Helper()
	d, e := exact.Det(rows)
	if e != api.OK {
		t.Fatalf("Det: %v", e)
	}
	return d
}

// sureRank is a rank that must be there.
func sureRank(t *testing.T, rows [][]api.Whole) int {
	t.Helper()
	k, e := exact.Rank(rows)
	if e != api.OK {
		t.Fatalf("Rank: %v", e)
	}
	return k
}

// negative is a with its sign turned.
func negative(a api.Whole) api.Whole {
	a.Neg = !a.Neg && len(a.Limbs) > 0
	return a
}

// changed has two rows' places changed.
func changed(rows [][]api.Whole, a, b int) [][]api.Whole {
	rows = slices.Clone(rows)
	rows[a], rows[b] = rows[b], rows[a]
	return rows
}

// turn makes rows columns.
func turn(rows [][]api.Whole) [][]api.Whole {
	var columns [][]api.Whole
	for c := range rows[0] {
		var column []api.Whole
		for _, row := range rows {
			column = append(column, row[c])
		}
		columns = append(columns, column)
	}
	return columns
}

func TestP3_3ChangedRowsTurnTheSign(t *testing.T) {
	for i, g := range squares() {
		rows := g.rows()
		want := negative(sureDet(t, rows))
		for a := range rows {
			for b := range a {
				if got := sureDet(t, changed(rows, a, b)); !same(got, want) {
					t.Errorf("square %d, rows %d and %d: %s; wanted %s", i, a, b, show(got), show(want))
				}
			}
		}
	}
}

func TestP3_3ChangedRowsKeepTheRank(t *testing.T) {
	for i, g := range samples() {
		rows := g.rows()
		for a := range rows {
			if got, want := sureRank(t, changed(rows, 0, a)), sureRank(t, rows); got != want {
				t.Errorf("sample %d, rows 0 and %d: %d; wanted %d", i, a, got, want)
			}
		}
	}
}

func TestP3_3RowsAsColumns(t *testing.T) {
	for i, g := range samples() {
		if g.width() == 0 {
			continue // no rows, of any number of columns, have none to turn into
		}
		rows := g.rows()
		columns := turn(rows)
		if got, want := sureRank(t, columns), sureRank(t, rows); got != want {
			t.Errorf("sample %d: rank %d; turned %d", i, want, got)
		}
		if len(g) != g.width() {
			continue
		}
		if got, want := sureDet(t, columns), sureDet(t, rows); !same(got, want) {
			t.Errorf("sample %d: determinant %s; turned %s", i, show(want), show(got))
		}
	}
}

func TestP3_3MinorsOfRowsAsColumns(t *testing.T) {
	for i, g := range few() {
		rows, columns := g.rows(), g.turned().rows()
		eachMinor(g, func(at, cols []int) {
			a, e := exact.Minor(rows, at, cols)
			b, f := exact.Minor(columns, cols, at)
			if e != api.OK || f != api.OK || !same(a, b) {
				t.Errorf("grid %d at %v %v: %s, %v; turned %s, %v", i, at, cols, show(a), e, show(b), f)
			}
		})
	}
}

// sumOf is a sum of rows, each taken as often as factor tells.
func sumOf(g grid, factor func() *big.Int) []*big.Int {
	sum := zeros(1, g.width())[0]
	for _, row := range g {
		n := factor()
		for c := range sum {
			sum[c].Add(sum[c], new(big.Int).Mul(n, row[c]))
		}
	}
	return sum
}

// fits tells whether all numbers are short enough for a row.
func fits(row []*big.Int) bool {
	return !slices.ContainsFunc(row, func(v *big.Int) bool { return v.BitLen() > maxBits })
}

func TestP3_4SumsAddNothing(t *testing.T) {
	d := dice(31)
	factors := []func() *big.Int{
		func() *big.Int { return new(big.Int) },
		func() *big.Int { return big.NewInt(1) },
		func() *big.Int { return d.small(1) },
		func() *big.Int { return d.small(1000) },
		func() *big.Int { return d.long(20) },
	}
	asked := 0
	for i, g := range samples() {
		want := sureRank(t, g.rows())
		for k, factor := range factors {
			sum := sumOf(g, factor)
			if len(g) == 0 || len(g) == most || !fits(sum) {
				continue
			}
			for at := range len(g) + 1 {
				more := slices.Insert(slices.Clone(g), at, sum)
				wantsRank(t, fmt.Sprint("sample ", i, ", a sum of kind ", k, " at ", at), more.rows(), want)
				asked++
			}
		}
	}
	if asked < 1000 {
		t.Errorf("only %d sums were short enough", asked)
	}
}

func TestP3_4SumsMakeADeterminantOfZero(t *testing.T) {
	d := dice(37)
	for n := 1; n <= most; n++ {
		for _, limbs := range []int{1, 2, 20, maxLimbs - 1} {
			g := d.longs(n-1, n, limbs)
			for at := range n {
				sum := zeros(1, n)[0]
				if n > 1 { // a single row is the sum of none
					sum = sumOf(g, func() *big.Int { return d.small(1000) })
				}
				rows := slices.Insert(slices.Clone(g), at, sum).rows()
				got, e := exact.Det(rows)
				wants(t, fmt.Sprint(n, " rows, the sum at ", at), got, e, new(big.Int))
				wantsRank(t, fmt.Sprint(n, " rows, the sum at ", at), rows, n-1)
			}
		}
	}
}

func TestP3_5DeterminantAndRank(t *testing.T) {
	noughts, others := 0, 0
	for i, g := range squares() {
		rows := g.rows()
		d, k := sureDet(t, rows), sureRank(t, rows)
		if (len(d.Limbs) > 0) != (k == len(rows)) {
			t.Errorf("square %d: determinant %s, rank %d", i, show(d), k)
		}
		if len(d.Limbs) == 0 {
			noughts++
		} else {
			others++
		}
	}
	if noughts < 40 || others < 40 {
		t.Errorf("%d determinants are 0, %d are not", noughts, others)
	}
}

// TestP3_5OneMore: what is 0 by the last bit of the longest numbers alone is told from what is not.
func TestP3_5OneMore(t *testing.T) {
	d := dice(41)
	for n := 2; n <= most; n++ {
		g := d.longs(n, n-1, maxLimbs/2-1).times(d.longs(n-1, n, maxLimbs/2))
		wantsRank(t, fmt.Sprint(n, " rows that hang on each other"), g.rows(), n-1)
		for r := range n {
			more := make2(n, n, func(i, c int) *big.Int {
				if i == r && c == n-1-r {
					return new(big.Int).Add(g[i][c], big.NewInt(1))
				}
				return g[i][c]
			})
			det := sureDet(t, more.rows())
			if len(det.Limbs) == 0 || !same(det, wholeOf(more.det())) {
				t.Errorf("%d rows, one more in row %d: %s", n, r, show(det))
			}
			wantsRank(t, fmt.Sprint(n, " rows, one more in row ", r), more.rows(), n)
		}
	}
}
