package pivot_test

import (
	"math"
	"math/big"
	"slices"
	"testing"

	"dioptra/api"
	"dioptra/certify"
	"dioptra/pivot"
)

// step: numbers stand in steps of 2^-step, products of two of them, and squares, in steps of 2^(-2 step), squares of what such products lack in steps of 2^(-4 step).
const step = 1074

// grid is a matrix of exact numbers, row by row.
type grid [][]*big.Int

// gridOf is m's numbers, each in steps of 2^-1074.
func gridOf(m api.Matrix) grid {
	g := make(grid, m.Rows)
	for i := range g {
		for k := range m.Cols {
			g[i] = append(g[i], units(*at(m, i, k)))
		}
	}
	return g
}

// lack is a less b times c, in steps of 2^-2148.
func lack(a, b, c grid) grid {
	g := make(grid, len(a))
	for i := range a {
		for k := range a[i] {
			n := new(big.Int).Lsh(a[i][k], step)
			for j := range c {
				n.Sub(n, new(big.Int).Mul(b[i][j], c[j][k]))
			}
			g[i] = append(g[i], n)
		}
	}
	return g
}

// square is the sum of squares.
func (g grid) square() *big.Int {
	total := new(big.Int)
	for _, row := range g {
		for _, n := range row {
			total.Add(total, new(big.Int).Mul(n, n))
		}
	}
	return total
}

// small tells whether x is at most a part in 2^80 of y, which stands in the steps of squares of numbers, and x in those of squares of what products lack.
func small(x, y *big.Int) bool {
	return new(big.Int).Lsh(x, 80).Cmp(new(big.Int).Lsh(y, 2*step)) <= 0
}

// isProduct tells whether b times c is a but for a part in 2^80 of its square.
func isProduct(a, b, c api.Matrix) bool {
	exact := gridOf(a)
	return small(lack(exact, gridOf(b), gridOf(c)).square(), exact.square())
}

// standsUpright tells whether q's columns do, but for a square of 2^-80.
func standsUpright(q api.Matrix) bool {
	one := units(api.One)
	return small(lack(gridOf(eye(q.Cols)), gridOf(turned(q)), gridOf(q)).square(), one.Mul(one, one))
}

// neverGrow tells whether each number on r's diagonal has a square that is at most that of the one ahead, and a part in 2^30 of the first one's more.
func neverGrow(r api.Matrix) bool {
	square := func(j int) *big.Int {
		n := units(*at(r, j, j))
		return n.Mul(n, n)
	}
	for j := 1; j < min(r.Rows, r.Cols); j++ {
		more := square(j)
		more.Sub(more, square(j-1))
		if more.Lsh(more, 30).Cmp(square(0)) > 0 {
			return false
		}
	}
	return true
}

// TestExactIsRight guards the tests of what follows: one bit too many is seen, and one too few is let be.
func TestExactIsRight(t *testing.T) {
	for _, c := range []struct {
		a, b, c api.Matrix
		want    bool
	}{
		{of(1, 1, three), of(1, 1, three), of(1, 1, api.One), true},
		{of(1, 1, api.One), of(1, 1, api.One), of(1, 1, api.One+1<<12), true}, // 2^-40 is off by just the part
		{of(1, 1, api.One), of(1, 1, api.One), of(1, 1, api.One+1<<12+1), false},
		{of(1, 2, api.One, two), of(1, 2, two, api.One), of(2, 2, api.Zero, api.One, api.One, api.Zero), true},
		{of(1, 2, api.One, two), of(1, 2, two, api.One), of(2, 2, api.One, api.Zero, api.Zero, api.One), false},
		{filled(2, 2, api.Zero), filled(2, 2, api.NegZero), eye(2), true},
		{of(1, 1, api.Zero), of(1, 1, least), of(1, 1, least), false}, // of nothing no part is small
		{of(2, 0), of(2, 0), of(0, 0), true},
	} {
		if got := isProduct(c.a, c.b, c.c); got != c.want {
			t.Errorf("%s of %s and %s: %v", show(c.a), show(c.b), show(c.c), got)
		}
	}
	for _, c := range []struct {
		q    api.Matrix
		want bool
	}{{of(0, 0), true}, {eye(6), true}, {of(1, 1, minus(api.One)), true}, {of(1, 1, api.One+1<<11), false}, {of(1, 1, api.One+1<<11-1), true}, {of(2, 2, api.One, power(-40), api.Zero, api.One), false}, {of(2, 2, api.One, power(-41), api.Zero, api.One), true}, {of(2, 1, api.One, api.Zero), true}, {of(1, 2, api.One, api.Zero), false}} {
		if got := standsUpright(c.q); got != c.want {
			t.Errorf("%s stands upright: %v", show(c.q), got)
		}
	}
	for _, c := range []struct {
		r    api.Matrix
		want bool
	}{{of(0, 6), true}, {of(1, 1, three), true}, {eye(6), true}, {withDiagonal(2, 2, greatest, api.One, minus(api.One)), true}, {withDiagonal(3, 2, 0, power(15), power(15)+1), true}, {withDiagonal(3, 3, 0, power(15), 0, minus(api.One)), true}, {withDiagonal(3, 3, 0, power(15), 0, api.One+1), false}, {withDiagonal(3, 4, 0, power(15), api.One, power(15)), false}, {withDiagonal(2, 2, 0, api.Zero, least), false}, {filled(3, 3, api.NegZero), true}} {
		if got := neverGrow(c.r); got != c.want {
			t.Errorf("%s never grows: %v", show(c.r), got)
		}
	}
}

// middles are matrices of all sizes whose numbers are neither very great nor very small: of several sorts, of columns of unlike sorts, with multiples, with columns of noughts, with such as differ only in their signs, and such as are 0 below their diagonal.
func middles(d *dice) []api.Matrix {
	var list []api.Matrix
	sorts := d.middle()
	for _, s := range sizes() {
		for _, pick := range sorts {
			m := picked(s[0], s[1], pick)
			list = append(list, m, d.upper(m))
			if s[0] == 0 || s[1] == 0 {
				continue
			}
			list = append(list, d.noughtColumn(m, 0), d.noughtColumn(m, d.below(s[1])))
			same := make([]int, s[1])
			for k := range same {
				same[k] = d.below(s[1])
			}
			list = append(list, d.signs(columnsOf(m, same...)))
			mixed := clone(m)
			for i := range s[0] {
				*at(mixed, i, s[1]-1) = sorts[d.below(len(sorts))]()
			}
			list = append(list, mixed)
		}
		for _, pick := range []func() api.Bits{d.small(9), d.near(-3, 6), d.near(-30, 60), d.near(-190, 380)} { // times the multiples' numbers they still are of the middle
			list = append(list, d.multiples(s[0], s[1], pick))
		}
	}
	return list
}

// TestMiddlesAreRight guards the tests of what follows.
func TestMiddlesAreRight(t *testing.T) {
	d := dice(1640)
	for _, m := range middles(&d) {
		for _, b := range m.Data {
			if f := math.Abs(float(b)); f != 0 && (f < math.Ldexp(1, -200) || f >= math.Ldexp(1, 200)) {
				t.Fatalf("%s: %v is very great or very small", show(m), f)
			}
		}
	}
}

// wantsOrder looks after places and what is below the diagonal.
func wantsOrder(t *testing.T, a api.Matrix, got factored) {
	t.Helper()
	sorted := slices.Clone(got.places)
	slices.Sort(sorted)
	if !slices.Equal(sorted, inOrder(a.Cols)) {
		t.Errorf("%s: places %v", show(a), got.places)
	}
	for i := range got.r.Rows {
		for k := range min(i, got.r.Cols) {
			if b := *at(got.r, i, k); b != api.Zero {
				t.Errorf("%s: r %s: %x in row %d, column %d", show(a), show(got.r), b, i, k)
			}
		}
	}
}

// TestP16_2Order: of whatever has factors places are all columns, each once, and r has just Zero below its diagonal, no nought below 0.
func TestP16_2Order(t *testing.T) {
	d := dice(1641)
	told := 0
	for _, s := range sizes() {
		for _, pick := range d.sorts() {
			m := picked(s[0], s[1], pick)
			for _, a := range []api.Matrix{m, each(m, minus), d.upper(m), d.signs(m), filled(s[0], s[1], pick())} {
				if got, e := factor(a); e == api.OK {
					told++
					wantsOrder(t, a, got)
				}
			}
		}
	}
	if told < 3000 {
		t.Errorf("%d matrices had factors", told)
	}
}

// TestP16_2NegZero: where noughts below 0 stand already, below the diagonal or everywhere, Zero is told all the same.
func TestP16_2NegZero(t *testing.T) {
	for _, s := range sizes() {
		for _, b := range []api.Bits{api.NegZero, minus(three), minus(least), three} {
			a := filled(s[0], s[1], b)
			for i := range s[0] {
				for k := range min(i, s[1]) {
					*at(a, i, k) = api.NegZero
				}
			}
			got, e := factor(a)
			if e != api.OK {
				t.Errorf("%s: %v", show(a), e)
				continue
			}
			wantsOrder(t, a, got)
		}
	}
}

// TestP16_3and4: of numbers of the middle there are factors, whose product is the matrix with its columns at their places, whose columns stand upright (P16.3), and whose diagonal never grows (P16.4).
func TestP16_3and4(t *testing.T) {
	d := dice(1642)
	for _, a := range middles(&d) {
		got, e := factor(a)
		if e != api.OK {
			t.Errorf("%s: %v", show(a), e)
			continue
		}
		wantsOrder(t, a, got)
		if !isProduct(columnsOf(a, got.places...), got.q, got.r) {
			t.Errorf("%s: %v: q times r is another one", show(a), got)
		}
		if !standsUpright(got.q) {
			t.Errorf("%s: %v: q does not stand upright", show(a), got)
		}
		if !neverGrow(got.r) {
			t.Errorf("%s: %v: the diagonal grows", show(a), got)
		}
	}
}

// TestP16_3Columns: Columns tells the matrix that the product is held against.
func TestP16_3Columns(t *testing.T) {
	d := dice(1643)
	for _, a := range middles(&d) {
		got, _ := factor(a)
		wantsColumns(t, a, got.places, columnsOf(a, got.places...))
	}
}

// TestP6Verdicts: the certifying layer says of the factors what is reckoned here.
func TestP6Verdicts(t *testing.T) {
	d := dice(1644)
	one, _ := certify.Square(of(1, 1, api.One))
	for n, a := range middles(&d) {
		if n%5 != 0 {
			continue
		}
		got, _ := factor(a)
		ordered, _ := pivot.Columns(a, got.places)
		off, e := certify.Residual(ordered, got.q, got.r)
		whole, f := certify.Square(a)
		tilt, g := certify.Orthogonal(got.q)
		near, _ := certify.Within(off, whole, 40)
		stands, _ := certify.Within(tilt, one, 40)
		if !near || !stands || e != api.OK || f != api.OK || g != api.OK {
			t.Errorf("%s: %v: %v, %v, %v, %v, %v", show(a), got, near, stands, e, f, g)
		}
	}
}

// exactRank is the rank of whole numbers, by rows that are taken off one another without any division.
func exactRank(m api.Matrix) int {
	rows := make([][]*big.Int, m.Rows)
	for i := range rows {
		for k := range m.Cols {
			rows[i] = append(rows[i], big.NewInt(int64(float(*at(m, i, k)))))
		}
	}
	rank := 0
	for k := 0; k < m.Cols && rank < m.Rows; k++ {
		at := slices.IndexFunc(rows[rank:], func(row []*big.Int) bool { return row[k].Sign() != 0 })
		if at < 0 {
			continue
		}
		rows[rank], rows[rank+at] = rows[rank+at], rows[rank]
		top := rows[rank]
		for _, row := range rows[rank+1:] {
			by := new(big.Int).Set(row[k])
			for c := range row {
				row[c].Sub(row[c].Mul(row[c], top[k]), new(big.Int).Mul(top[c], by))
			}
		}
		rank++
	}
	return rank
}

// wantsRank holds the rank told of m's factors against the exact one, and tells that.
func wantsRank(t *testing.T, m api.Matrix) int {
	t.Helper()
	want := exactRank(m)
	_, r, _, e := pivot.Factor(m)
	if e != api.OK {
		t.Errorf("%s: %v", show(m), e)
	}
	wantsTold(t, r, want)
	if got, e := certify.Rank(m); got != want || e != api.OK {
		t.Errorf("%s: the certifying layer's rank is %d, %v; wanted %d", show(m), got, e, want)
	}
	return want
}

// counts are all matrices of that size whose numbers are whole ones from -most to most.
func counts(rows, cols, most int) []api.Matrix {
	list := []api.Matrix{filled(rows, cols, api.Zero)}
	for i := range rows * cols {
		var next []api.Matrix
		for _, m := range list {
			for n := -most; n <= most; n++ {
				other := clone(m)
				other.Data[i] = says(float64(n))
				next = append(next, other)
			}
		}
		list = next
	}
	return list
}

// TestP16_5Few: of every size, of few numbers, all matrices there are.
func TestP16_5Few(t *testing.T) {
	for _, c := range []struct{ rows, cols, most int }{{0, 4, 4}, {4, 0, 4}, {1, 1, 4}, {1, 2, 4}, {2, 1, 4}, {1, 3, 4}, {3, 1, 4}, {2, 2, 4}, {2, 3, 1}, {3, 2, 1}, {2, 4, 1}, {4, 2, 1}} {
		for _, m := range counts(c.rows, c.cols, c.most) {
			wantsRank(t, m)
		}
	}
}

// lowRank is a matrix of whole numbers from -4 to 4 whose rank is at most n: products of few numbers.
func (d *dice) lowRank(rows, cols, n int) api.Matrix {
	for {
		left, right := picked(rows, n, d.small(2)), picked(n, cols, d.small(2))
		m := of(rows, cols)
		fits := true
		for i := range rows {
			for k := range cols {
				s := 0.0
				for j := range n {
					s += float(*at(left, i, j)) * float(*at(right, j, k))
				}
				m.Data = append(m.Data, says(s))
				fits = fits && math.Abs(s) <= 4
			}
		}
		if fits {
			return m
		}
	}
}

// TestP16_5Many: of every size up to 4 rows and columns many matrices, of full rank and of each lower one.
func TestP16_5Many(t *testing.T) {
	d := dice(1645)
	for rows := range 5 {
		for cols := range 5 {
			ranks := map[int]int{}
			for range 120 {
				ranks[wantsRank(t, picked(rows, cols, d.small(4)))]++
				ranks[wantsRank(t, picked(rows, cols, d.small(1)))]++
				ranks[wantsRank(t, picked(rows, cols, d.sparse(d.small(4))))]++
				ranks[wantsRank(t, d.lowRank(rows, cols, d.below(min(rows, cols)+1)))]++
			}
			for rank := range min(rows, cols) + 1 {
				if ranks[rank] < 10 {
					t.Errorf("%d rows and %d columns: which ranks: %v", rows, cols, ranks)
				}
			}
		}
	}
}

// TestP16_5Hard: square ones whose determinant is small though their numbers are great, and such as have a row or a column that hangs on all others.
func TestP16_5Hard(t *testing.T) {
	d := dice(1646)
	ranks := map[int]int{}
	for range 20000 {
		m := picked(4, 4, d.out([]api.Bits{four, three, minus(four), minus(three)}))
		if n := exactRank(m); n == 4 && ranks[4] >= 200 {
			continue
		}
		ranks[wantsRank(t, m)]++
	}
	wantsRank(t, of(4, 4, four, minus(four), minus(four), minus(four), 0, four, minus(four), minus(four), 0, 0, four, minus(four), 0, 0, 0, api.One))
	if ranks[3] < 50 {
		t.Errorf("which ranks: %v", ranks)
	}
}
