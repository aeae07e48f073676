package certify_test

import (
	"fmt"
	"math"
	"math/big"
	"slices"
	"testing"

	"dioptra/api"
	"dioptra/certify"
)

// unit is the power of two of which all finite numbers are so many times.
const unit = -1074

// table is rows of whole numbers, each to be taken times 2^e.
type table struct {
	e          int
	rows, cols int
	cells      []*big.Int
}

// tableOf is a matrix of finite numbers by what they are worth, by the library's own means.
func tableOf(m api.Matrix) table {
	t := table{e: unit, rows: m.Rows, cols: m.Cols}
	for _, b := range m.Data {
		fraction, e := math.Frexp(float(b))
		v := big.NewInt(int64(math.Ldexp(fraction, 53)))
		if e -= 53 + unit; e >= 0 {
			v.Lsh(v, uint(e))
		} else {
			v.Quo(v, new(big.Int).Lsh(big.NewInt(1), uint(-e))) // of a subnormal number these are noughts
		}
		t.cells = append(t.cells, v)
	}
	return t
}

func (t table) at(i, k int) *big.Int {
	return t.cells[i*t.cols+k]
}

func (t table) turned() table {
	n := table{e: t.e, rows: t.cols, cols: t.rows}
	for k := range t.cols {
		for i := range t.rows {
			n.cells = append(n.cells, t.at(i, k))
		}
	}
	return n
}

// times is the exact product.
func (t table) times(u table) table {
	n := table{e: t.e + u.e, rows: t.rows, cols: u.cols}
	for i := range t.rows {
		for k := range u.cols {
			s := new(big.Int)
			for j := range t.cols {
				s.Add(s, new(big.Int).Mul(t.at(i, j), u.at(j, k)))
			}
			n.cells = append(n.cells, s)
		}
	}
	return n
}

// less is the exact difference.
func (t table) less(u table) table {
	e := min(t.e, u.e)
	n := table{e: e, rows: t.rows, cols: t.cols}
	for i, v := range t.cells {
		n.cells = append(n.cells, new(big.Int).Sub(value{v, t.e}.at(e), value{u.cells[i], u.e}.at(e)))
	}
	return n
}

// square is the right number of the exact sum of squares.
func (t table) square() api.Dyadic {
	s := new(big.Int)
	for _, v := range t.cells {
		s.Add(s, new(big.Int).Mul(v, v))
	}
	d, ok := value{s, 2 * t.e}.right()
	if !ok {
		panic("a square that has no right number")
	}
	return d
}

// rank is how many rows are left, if what hangs on others is taken off: each step keeps one row and clears a column of the rest.
func (t table) rank() int {
	var left [][]*big.Int
	for i := range t.rows {
		left = append(left, t.cells[i*t.cols:(i+1)*t.cols])
	}
	rank := 0
	for c := range t.cols {
		at := slices.IndexFunc(left, func(row []*big.Int) bool { return row[c].Sign() != 0 })
		if at < 0 {
			continue
		}
		kept := left[at]
		left = slices.Delete(left, at, at+1)
		for r, row := range left {
			cleared := make([]*big.Int, t.cols)
			for k := range t.cols {
				cleared[k] = new(big.Int).Mul(row[k], kept[c])
				cleared[k].Sub(cleared[k], new(big.Int).Mul(kept[k], row[c]))
			}
			left[r] = cleared
		}
		rank++
	}
	return rank
}

func residual(a, b, c api.Matrix) api.Dyadic {
	return tableOf(a).less(tableOf(b).times(tableOf(c))).square()
}

func orthogonal(q api.Matrix) api.Dyadic {
	columns := tableOf(q)
	return columns.turned().times(columns).less(tableOf(eye(q.Cols))).square()
}

func gradient(a, x, b api.Matrix) api.Dyadic {
	factor := tableOf(a)
	return factor.turned().times(factor.times(tableOf(x)).less(tableOf(b))).square()
}

func wantsResidual(t *testing.T, a, b, c api.Matrix) {
	t.Helper()
	got, e := certify.Residual(a, b, c)
	wants(t, fmt.Sprintf("Residual(%x, %x, %x)", a, b, c), got, e, residual(a, b, c))
}

func wantsOrthogonal(t *testing.T, q api.Matrix) {
	t.Helper()
	got, e := certify.Orthogonal(q)
	wants(t, fmt.Sprintf("Orthogonal(%x)", q), got, e, orthogonal(q))
}

func wantsGradient(t *testing.T, a, x, b api.Matrix) {
	t.Helper()
	got, e := certify.Gradient(a, x, b)
	wants(t, fmt.Sprintf("Gradient(%x, %x, %x)", a, x, b), got, e, gradient(a, x, b))
}

// TestP11_1Examples: numbers that the chapter tells, and others that can be reckoned by hand.
func TestP11_1Examples(t *testing.T) {
	got, e := certify.Square(of(1, 2, three, minus(four)))
	wants(t, "Square of 3 -4", got, e, number(25, 0))
	got, e = certify.Residual(of(1, 1, two), of(1, 1, api.One), of(1, 1, api.One))
	wants(t, "2 less 1 times 1", got, e, number(1, 0))
	got, e = certify.Orthogonal(eye(3))
	wants(t, "Orthogonal of Eye", got, e, api.Dyadic{})
	got, e = certify.Orthogonal(of(1, 2, three, four)) // 9 12, 12 16 less ones
	wants(t, "Orthogonal of 3 4 in a row", got, e, number(64+144+144+225, 0))
	got, e = certify.Orthogonal(of(2, 1, three, four))
	wants(t, "Orthogonal of 3 4 in a column", got, e, number(9, 6))
	got, e = certify.Gradient(of(2, 1, api.One, two), of(1, 1, three), of(2, 1, api.One, api.One)) // 1 2 of 2 5
	wants(t, "Gradient of two equations", got, e, number(9, 4))
	got, e = certify.Gradient(of(2, 1, api.One, api.One), of(1, 1, two), of(2, 1, api.One, three))
	wants(t, "Gradient of the nearest", got, e, api.Dyadic{})
	got, e = certify.Square(of(1, 1, least))
	wants(t, "Square of the least number", got, e, number(1, -2148))
}

// TestP11_1Nothing: what has no places has the square 0, and columns of no rows lack their ones.
func TestP11_1Nothing(t *testing.T) {
	for n := range int64(api.MaxDim + 1) {
		zero, k := api.Dyadic{}, int(n)
		ones, _ := value{big.NewInt(n), 0}.right()
		for _, m := range []api.Matrix{of(k, 0), of(0, k)} {
			got, e := certify.Square(m)
			wants(t, "Square of nothing", got, e, zero)
			wantsRank(t, m, 0)
		}
		got, e := certify.Orthogonal(of(0, k))
		wants(t, "Orthogonal of columns of no rows", got, e, ones)
		got, e = certify.Orthogonal(of(k, 0))
		wants(t, "Orthogonal of no columns", got, e, zero)
		got, e = certify.Residual(filled(k, 1, minus(api.One)), of(k, 0), of(0, 1))
		wants(t, "ones less a product of no columns", got, e, ones)
		got, e = certify.Gradient(of(0, k), filled(k, 1, api.One), of(0, 1))
		wants(t, "Gradient of no equations", got, e, zero)
		got, e = certify.Gradient(of(k, 0), of(0, 1), filled(k, 1, api.One))
		wants(t, "Gradient of no columns", got, e, zero)
	}
}

func TestP11_1Square(t *testing.T) {
	d := dice(1101)
	for _, s := range sizes() {
		for _, pick := range d.sorts() {
			m := picked(s[0], s[1], pick)
			got, e := certify.Square(m)
			wants(t, fmt.Sprintf("Square(%x)", m), got, e, tableOf(m).square())
		}
	}
}

func TestP11_1Residual(t *testing.T) {
	d := dice(1102)
	sorts := d.sorts()
	for _, s := range triples() {
		pick := sorts[d.below(len(sorts))]
		wantsResidual(t, picked(s[0], s[2], pick), picked(s[0], s[1], pick), picked(s[1], s[2], pick))
		other := func() func() api.Bits { return sorts[d.below(len(sorts))] }
		wantsResidual(t, picked(s[0], s[2], other()), picked(s[0], s[1], other()), picked(s[1], s[2], other()))
	}
}

// TestP11_1ResidualOfNear: a product of rounded numbers, which lacks but its last digits.
func TestP11_1ResidualOfNear(t *testing.T) {
	d := dice(1103)
	for range 50 {
		b, c := picked(3, 4, d.near(-3, 6)), picked(4, 2, d.near(-3, 6))
		a := of(3, 2)
		for i := range 3 {
			for k := range 2 {
				s := 0.0
				for j := range 4 {
					s += float(b.Data[i*4+j]) * float(c.Data[j*2+k])
				}
				a.Data = append(a.Data, api.Bits(math.Float64bits(s)))
			}
		}
		wantsResidual(t, a, b, c)
		if got, _ := certify.Residual(a, b, c); valueOf(got).cmp(value{big.NewInt(1), -80}) > 0 {
			t.Errorf("%s is not small", show(got))
		}
	}
}

func TestP11_1Orthogonal(t *testing.T) {
	d := dice(1104)
	for _, s := range sizes() {
		for _, pick := range d.sorts() {
			wantsOrthogonal(t, picked(s[0], s[1], pick))
		}
	}
}

func TestP11_1Gradient(t *testing.T) {
	d := dice(1105)
	sorts := d.sorts()
	for _, s := range triples() {
		pick := sorts[d.below(len(sorts))]
		wantsGradient(t, picked(s[0], s[1], pick), picked(s[1], s[2], pick), picked(s[0], s[2], pick))
		other := func() func() api.Bits { return sorts[d.below(len(sorts))] }
		wantsGradient(t, picked(s[0], s[1], other()), picked(s[1], s[2], other()), picked(s[0], s[2], other()))
	}
}

// TestP11_1Widest: the greatest numbers and the least ones in one matrix of just MaxDim rows and columns, so that sums are as wide as can be.
func TestP11_1Widest(t *testing.T) {
	const n = api.MaxDim
	mixed := filled(n, n, greatest)
	for i := range n {
		mixed.Data[i*n+i] = least
	}
	lower := filled(n, n, greatest)
	lower.Data[n*n-1] = least
	for _, m := range []api.Matrix{filled(n, n, greatest), filled(n, n, minus(greatest)), filled(n, n, least), mixed, lower, filled(n, n, greatest-1)} {
		got, e := certify.Square(m)
		wants(t, "Square", got, e, tableOf(m).square())
		wantsOrthogonal(t, m)
		for _, o := range []api.Matrix{mixed, lower, filled(n, n, minus(greatest)), filled(n, n, minus(least)), filled(n, n, api.NegZero)} {
			wantsResidual(t, m, o, m)
			wantsResidual(t, o, m, m)
			wantsGradient(t, m, m, o)
			wantsGradient(t, m, o, m)
			wantsGradient(t, o, m, m)
		}
		wantsRank(t, m, tableOf(m).rank())
	}
}

func TestP11_2Rank(t *testing.T) {
	d := dice(1106)
	for _, s := range sizes() {
		for _, pick := range d.sorts() {
			m := picked(s[0], s[1], pick)
			wantsRank(t, m, tableOf(m).rank())
		}
	}
}

// TestP11_2RankOfProducts: products of small numbers, whose ranks are all that there can be, each row of another size.
func TestP11_2RankOfProducts(t *testing.T) {
	d := dice(1107)
	seen := map[[3]int]bool{}
	for _, s := range triples() {
		for range 3 {
			m := d.product(s[0], s[1], s[2])
			rank := tableOf(m).rank()
			wantsRank(t, m, rank)
			seen[[3]int{m.Rows, m.Cols, rank}] = true
		}
	}
	for _, s := range sizes() {
		for rank := range min(s[0], s[1]) + 1 {
			if !seen[[3]int{s[0], s[1], rank}] {
				t.Errorf("no sample of %d rows and %d columns with the rank %d", s[0], s[1], rank)
			}
		}
	}
}

// product is a matrix of small numbers whose rank is at most inner, each row times a power of two.
func (d *dice) product(rows, inner, cols int) api.Matrix {
	a, b := picked(rows, inner, d.small(3)), picked(inner, cols, d.small(3))
	m := of(rows, cols)
	for i := range rows {
		e := d.below(1900) - 950
		for k := range cols {
			s := 0.0
			for j := range inner {
				s += float(a.Data[i*inner+j]) * float(b.Data[j*cols+k])
			}
			m.Data = append(m.Data, api.Bits(math.Float64bits(math.Ldexp(s, e))))
		}
	}
	return m
}

// TestP11_2RankIsExact: one last digit, and the least number beside the greatest, make the difference.
func TestP11_2RankIsExact(t *testing.T) {
	wantsRank(t, of(2, 2, api.One, two, two, four), 1)
	wantsRank(t, of(2, 2, api.One, two, two, four+1), 2)
	wantsRank(t, of(2, 2, greatest, greatest, least, least), 1)
	wantsRank(t, of(2, 2, greatest, greatest-1, least, least), 2)
	wantsRank(t, of(2, 2, greatest, api.Zero, api.NegZero, least), 2)
	wantsRank(t, of(2, 2, greatest, least, api.NegZero, api.Zero), 1)
	wantsRank(t, of(2, 2, power(1023), api.One, api.One, power(-1022)), 2)
	wantsRank(t, of(2, 2, power(1022), api.One, api.One, power(-1022)), 1)
	wantsRank(t, of(2, 2, power(1022), api.One, api.One, power(-1022)+1), 2)
	wantsRank(t, of(1, 1, least), 1)
	wantsRank(t, of(2, 3, api.NegZero, api.Zero, api.NegZero, api.Zero, api.Zero, api.NegZero), 0)
	third := api.Bits(0x3fd5555555555555)
	wantsRank(t, of(2, 2, three, api.One, api.One, third), 2) // a determinant that rounds to 0
}
