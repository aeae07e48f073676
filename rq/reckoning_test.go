package rq_test

import (
	"fmt"
	"math"
	"slices"
	"testing"

	"dioptra/api"
	"dioptra/matrix"
	"dioptra/qr"
	"dioptra/rq"
)

// gosDot is the sum of products by the machine's own numbers. The conversions keep it from rounding once for two operations.
func gosDot(x, y []float64) float64 {
	s := 0.0
	for i := range x {
		s = float64(s + float64(x[i]*y[i]))
	}
	return s
}

// gosNorm is the norm of numbers that are finite, and not all noughts.
func gosNorm(x []float64) float64 {
	most := 0.0
	for _, f := range x {
		most = max(most, math.Abs(f))
	}
	k := math.Ilogb(most)
	t := make([]float64, len(x))
	for i, f := range x {
		t[i] = math.Ldexp(f, -k)
	}
	return math.Ldexp(math.Sqrt(gosDot(t, t)), k)
}

// gosMirror is what a mirror is by the machine's own numbers.
type gosMirror struct {
	v         []float64
	tau, beta float64
}

// gosMake is x's mirror, and whether there is one.
func gosMake(x []float64) (gosMirror, bool) {
	v := make([]float64, len(x))
	v[0] = 1
	sign, others := 0.0, false
	for i, f := range x {
		if !isFinite(f) {
			return gosMirror{}, false
		}
		if f != 0 && sign == 0 {
			sign = math.Copysign(1, f)
		}
		others = others || i > 0 && f != 0
	}
	if !others {
		return gosMirror{v, 0, x[0]}, true
	}
	beta := -sign * gosNorm(x)
	d := x[0] - beta
	if !isFinite(beta) || !isFinite(d) {
		return gosMirror{}, false
	}
	for i := 1; i < len(x); i++ {
		v[i] = x[i] / d
	}
	return gosMirror{v, float64(beta-x[0]) / beta, beta}, true
}

// table is a matrix of the machine's own numbers, row by row.
type table [][]float64

func tableOf(m api.Matrix) table {
	t := make(table, m.Rows)
	for i := range t {
		for k := range m.Cols {
			t[i] = append(t[i], float(*at(m, i, k)))
		}
	}
	return t
}

// matrix is a right matrix of so many columns.
func (t table) matrix(cols int) api.Matrix {
	m := of(len(t), cols)
	for _, row := range t {
		for _, f := range row {
			m.Data = append(m.Data, says(f))
		}
	}
	return m
}

// mirror mirrors each row of t from column k on.
func (t table) mirror(m gosMirror, k int) {
	for _, row := range t {
		s := float64(m.tau * gosDot(m.v, row[k:]))
		for j, v := range m.v {
			row[k+j] = float64(row[k+j] - float64(s*v))
		}
	}
}

// uprightBy is Eye of n rows, each row mirrored by all mirrors, the last one first.
func uprightBy(n int, mirrors []gosMirror) table {
	t := tableOf(eye(n))
	for j := len(mirrors) - 1; j >= 0; j-- {
		t.mirror(mirrors[j], j)
	}
	return t
}

func (t table) finite() bool {
	for _, row := range t {
		for _, f := range row {
			if !isFinite(f) {
				return false
			}
		}
	}
	return true
}

// factored is what the machine's own numbers come to: both factors, how many mirrors were made, and whether all could be, and what they made is finite.
type factored struct {
	first, q api.Matrix
	made     int
	ok       bool
}

// gosMirrored goes over rows as pick says, in t itself: the row of mirror j, and all rows that it mirrors, that one among them. Nothing is turned here: rows are mirrored as they lie.
func gosMirrored(t table, cols int, pick func(j int) (int, table)) ([]gosMirror, bool) {
	var mirrors []gosMirror
	for j := 0; j < len(t) && j < cols-1; j++ {
		i, rows := pick(j)
		m, is := gosMake(t[i][j:])
		if !is {
			return mirrors, false
		}
		rows.mirror(m, j)
		t[i][j] = m.beta
		for k := j + 1; k < cols; k++ {
			t[i][k] = 0
		}
		mirrors = append(mirrors, m)
	}
	return mirrors, true
}

// gosLq: row j from column j on, and all rows below it.
func gosLq(a api.Matrix) factored {
	t := tableOf(a)
	mirrors, is := gosMirrored(t, a.Cols, func(j int) (int, table) { return j, t[j:] })
	p := uprightBy(a.Cols, mirrors)
	return factored{t.matrix(a.Cols), p.matrix(a.Cols), len(mirrors), is && t.finite() && p.finite()}
}

// gosRq: the last row but j from column j on, and all rows above it; at last each row's numbers, and the rows of what is upright, in the other order.
func gosRq(a api.Matrix) factored {
	t := tableOf(a)
	mirrors, is := gosMirrored(t, a.Cols, func(j int) (int, table) { return len(t) - 1 - j, t[:len(t)-j] })
	p := uprightBy(a.Cols, mirrors)
	for _, row := range t {
		slices.Reverse(row)
	}
	slices.Reverse(p)
	return factored{t.matrix(a.Cols), p.matrix(a.Cols), len(mirrors), is && t.finite() && p.finite()}
}

// wantsGos holds both calls against the machine's own numbers, bit for bit.
func wantsGos(t *testing.T, a api.Matrix) {
	t.Helper()
	for _, w := range ways() {
		if !w.fits(a) {
			w.wantsNone(t, a, api.ErrShape)
		} else if g := w.gos(a); g.ok {
			w.wants(t, a, g.first, g.q)
		} else {
			w.wantsNone(t, a, api.ErrRange)
		}
	}
}

// flipped is what Flip is to tell, by rows and columns that are put in the other order.
func flipped(m api.Matrix, rows, cols bool) api.Matrix {
	if rows {
		m = upsideDown(m)
	}
	if cols {
		m = rightToLeft(m)
	}
	return m
}

// pairs are all that Flip may be asked for.
func pairs() [][2]bool {
	return [][2]bool{{false, false}, {true, false}, {false, true}, {true, true}}
}

// TestP15_1Flip: all sizes, all four pairs, numbers of all kinds: what is not finite is no error, and stays as it was.
func TestP15_1Flip(t *testing.T) {
	d := dice(1501)
	for _, s := range sizes() {
		for _, m := range []api.Matrix{counted(s[0], s[1]), picked(s[0], s[1], d.near(-3, 6)), picked(s[0], s[1], d.out(all())), picked(s[0], s[1], d.out(notFinite())), picked(s[0], s[1], d.any())} {
			for _, p := range pairs() {
				want := flipped(m, p[0], p[1])
				if got, e := rq.Flip(m, p[0], p[1]); !same(got, want) || e != api.OK {
					t.Errorf("Flip(%s, %v): %s, %v; wanted %s", show(m), p, show(got), e, show(want))
				}
			}
		}
	}
}

func TestP15_1ByHand(t *testing.T) {
	m := of(2, 3, 1, 2, 3, 4, 5, 6)
	for _, c := range []struct {
		m          api.Matrix
		rows, cols bool
		want       api.Matrix
	}{
		{m, false, false, m},
		{m, true, false, of(2, 3, 4, 5, 6, 1, 2, 3)},
		{m, false, true, of(2, 3, 3, 2, 1, 6, 5, 4)},
		{m, true, true, of(2, 3, 6, 5, 4, 3, 2, 1)},
		{of(3, 2, 1, 2, 3, 4, 5, 6), true, false, of(3, 2, 5, 6, 3, 4, 1, 2)},
		{of(3, 2, 1, 2, 3, 4, 5, 6), false, true, of(3, 2, 2, 1, 4, 3, 6, 5)},
		{of(1, 3, 1, 2, 3), true, false, of(1, 3, 1, 2, 3)},
		{of(3, 1, 1, 2, 3), false, true, of(3, 1, 1, 2, 3)},
		{of(1, 3, api.NaN+1, api.NegZero, api.NegInf), false, true, of(1, 3, api.NegInf, api.NegZero, api.NaN+1)},
		{of(0, 3), true, true, of(0, 3)},
		{of(3, 0), true, true, of(3, 0)},
		{api.Matrix{}, true, true, of(0, 0)},
	} {
		if got, e := rq.Flip(c.m, c.rows, c.cols); !same(got, c.want) || e != api.OK {
			t.Errorf("Flip(%s, %v, %v): %s, %v; wanted %s", show(c.m), c.rows, c.cols, show(got), e, show(c.want))
		}
	}
}

// TestP15_1NotFinite: one number that is not finite, at each place, is handed on as it is.
func TestP15_1NotFinite(t *testing.T) {
	for _, s := range sizes() {
		for place := range s[0] * s[1] {
			for _, none := range notFinite() {
				m := counted(s[0], s[1])
				m.Data[place] = none
				for _, p := range pairs() {
					if got, e := rq.Flip(m, p[0], p[1]); !same(got, flipped(m, p[0], p[1])) || e != api.OK {
						t.Errorf("Flip(%s, %v): %s, %v", show(m), p, show(got), e)
					}
				}
			}
		}
	}
}

// TestP15_2GosOwn goes over all sizes with numbers of all sorts, of very unlike sizes, the greatest and the least among them.
func TestP15_2GosOwn(t *testing.T) {
	d := dice(1502)
	for _, s := range sizes() {
		for _, pick := range d.sorts() {
			for range 4 {
				wantsGos(t, picked(s[0], s[1], pick))
			}
		}
	}
}

// TestP15_2GosOwnSquare: of just MaxDim rows and columns, where all mirrors are made one after another.
func TestP15_2GosOwnSquare(t *testing.T) {
	d := dice(1503)
	for _, pick := range d.sorts() {
		for range 30 {
			wantsGos(t, picked(api.MaxDim, api.MaxDim, pick))
		}
	}
}

// TestP15_2Mixed: rows of one sort, then such of another one.
func TestP15_2Mixed(t *testing.T) {
	d := dice(1504)
	for _, one := range d.sorts() {
		for _, other := range d.sorts() {
			rows := 2 + d.below(5)
			m := picked(rows, rows+d.below(7-rows), other)
			for place := range (1 + d.below(m.Rows-1)) * m.Cols {
				m.Data[place] = one()
			}
			wantsGos(t, m)
			wantsGos(t, turned(m))
		}
	}
}

// TestP15_2NoughtRows: a row of noughts of either sign, at each place, the first one too.
func TestP15_2NoughtRows(t *testing.T) {
	d := dice(1505)
	for _, s := range sizes() {
		for i := range s[0] {
			for _, pick := range []func() api.Bits{d.near(-3, 6), d.small(3), d.out(finites())} {
				m := d.noughtRow(picked(s[0], s[1], pick), i)
				wantsGos(t, m)
				wantsGos(t, d.noughtRow(m, d.below(s[0])))
				for _, nought := range noughts() {
					for k := range s[1] {
						*at(m, i, k) = nought
					}
					wantsGos(t, m)
				}
			}
			wantsGos(t, picked(s[0], s[1], d.out(noughts())))
		}
	}
}

// TestP15_2NoughtsAlready: what has its noughts already, of either sign; Lq tells such a matrix as it is, with Zero there, and Eye, where no other nought is NegZero.
func TestP15_2NoughtsAlready(t *testing.T) {
	d := dice(1506)
	for _, s := range sizes() {
		for _, pick := range d.sorts() {
			for _, told := range []func(m api.Matrix, i, k int) bool{aboveDiagonal, aheadOfCorner, behindCounter} {
				wantsGos(t, d.bare(picked(s[0], s[1], pick), told))
			}
			want := each(d.bare(picked(s[0], s[1], pick), aboveDiagonal), plus)
			lower().wants(t, want, want, eye(s[1]))
			lower().wants(t, d.bare(want, aboveDiagonal), want, eye(s[1]))
		}
	}
}

// TestP15_2NothingToMirror: with noughts behind the diagonal that begins in the last row's first column Rq tells the columns in the other order, and Eye upside down.
func TestP15_2NothingToMirror(t *testing.T) {
	d := dice(1507)
	for _, s := range sizes() {
		for _, pick := range d.sorts() {
			if s[0] <= s[1] {
				a := each(d.bare(picked(s[0], s[1], pick), behindCounter), plus)
				upper().wants(t, a, rightToLeft(a), upsideDown(eye(s[1])))
			}
		}
	}
}

// TestP15_2Multiples: rows that are multiples of one another.
func TestP15_2Multiples(t *testing.T) {
	d := dice(1508)
	for _, s := range sizes() {
		for _, pick := range append(d.middle(), d.tiny(), d.near(-1022, 4)) {
			wantsGos(t, d.multiples(s[0], s[1], pick))
			wantsGos(t, upsideDown(d.multiples(s[0], s[1], pick)))
		}
	}
}

// TestP15_2Sorts guards the tests above: matrices of numbers near the greatest one come to all that there is.
func TestP15_2Sorts(t *testing.T) {
	d := dice(1509)
	count := map[string]int{}
	for range 4000 {
		m := picked(3, 3, d.sparse(d.near(1019, 5)))
		wantsGos(t, m)
		for _, w := range ways() {
			g := w.gos(m)
			count[fmt.Sprint(w.name, g.made, g.ok)]++
		}
	}
	for _, w := range ways() {
		for _, which := range []string{"2 true", "0 false", "1 false", "2 false"} {
			if count[w.name+which] < 50 {
				t.Errorf("of which sort: %v", count)
			}
		}
	}
}

// TestP15_2ByHand: the chapter's example, and such as tell rows from columns, and each order from the other.
func TestP15_2ByHand(t *testing.T) {
	lq, rq := lower(), upper()
	// 3 4: the mirror's rows are -0.6 -0.8 and -0.8 0.6.
	first, second := []api.Bits{0xbfe3333333333334, 0xbfe999999999999a}, []api.Bits{0xbfe999999999999a, 0x3fe3333333333333}
	a := of(1, 2, three, four)
	lq.wants(t, a, of(1, 2, minus(five), api.Zero), of(2, 2, slices.Concat(first, second)...))
	rq.wants(t, a, of(1, 2, api.Zero, minus(five)), of(2, 2, slices.Concat(second, first)...))
	a = of(1, 2, minus(three), minus(four))
	lq.wants(t, a, of(1, 2, five, api.Zero), of(2, 2, slices.Concat(first, second)...))
	rq.wants(t, a, of(1, 2, api.Zero, five), of(2, 2, slices.Concat(second, first)...))
	// One and two in the diagonal: Lq has nothing to do, Rq begins with the last row.
	a = of(2, 2, api.One, api.Zero, api.Zero, two)
	lq.wants(t, a, a, eye(2))
	rq.wants(t, a, of(2, 2, minus(api.One), api.Zero, api.Zero, minus(two)), of(2, 2, minus(api.One), api.Zero, api.Zero, minus(api.One)))
	// The other way round: now Rq has nothing to do.
	a = of(2, 2, api.Zero, api.One, two, api.Zero)
	lq.wants(t, a, of(2, 2, minus(api.One), api.Zero, api.Zero, minus(two)), of(2, 2, api.Zero, minus(api.One), minus(api.One), api.Zero))
	rq.wants(t, a, of(2, 2, api.One, api.Zero, api.Zero, two), of(2, 2, api.Zero, api.One, api.One, api.Zero))
	// Of one column: a row of one number has no mirror.
	a = of(3, 1, three, api.NegZero, minus(four))
	lq.wants(t, a, a, eye(1))
	rq.wantsNone(t, a, api.ErrShape)
	a = of(1, 1, minus(three))
	lq.wants(t, a, a, eye(1))
	rq.wants(t, a, a, eye(1))
}

// TestP15_2NoNumbers: of no rows, or no columns, q is Eye, in Rq upside down.
func TestP15_2NoNumbers(t *testing.T) {
	for n := range api.MaxDim + 1 {
		lq, rq := lower(), upper()
		lq.wants(t, of(0, n), of(0, n), eye(n))
		lq.wants(t, of(n, 0), of(n, 0), of(0, 0))
		rq.wants(t, of(0, n), of(0, n), upsideDown(eye(n)))
		if n > 0 {
			rq.wantsNone(t, of(n, 0), api.ErrShape)
		}
	}
}

// TestP15_2LostDigits: a row that mirrors before it have made so small that its own mirror has but few digits is factored in the written order all the same, though its q does not stand upright.
func TestP15_2LostDigits(t *testing.T) {
	a := filled(6, 6, api.Zero)
	for k := range 3 {
		*at(a, k, k), *at(a, k, k+1) = power(199), power(-200)
	}
	for k := 3; k < 6; k++ {
		*at(a, 2, k) = power(124)
	}
	*at(a, 3, 0), *at(a, 4, 3), *at(a, 5, 4) = power(-200), power(199), power(199)
	for _, m := range []api.Matrix{a, upsideDown(a)} {
		wantsGos(t, m)
	}
	if l, _, e := rq.Lq(a); *at(l, 3, 3) != 3 || e != api.OK { // thrice the least number
		t.Errorf("%s: l %s, %v", show(a), show(l), e)
	}
	if r, _, e := rq.Rq(upsideDown(a)); *at(r, 2, 2) != 3 || e != api.OK {
		t.Errorf("%s upside down: r %s, %v", show(a), show(r), e)
	}
}

// TestP1ByLayersBelow: the factors are what the calls of layers 10 and 14 give, with the rows and columns turned as the chapter writes, and no other way.
func TestP1ByLayersBelow(t *testing.T) {
	d := dice(1510)
	for _, s := range sizes() {
		for _, pick := range d.middle() {
			a := picked(s[0], s[1], pick)
			columns, _ := matrix.Turn(a)
			p, f, _ := qr.Factor(columns)
			lower().wants(t, a, turned(f), turned(p))
			if s[0] > s[1] {
				continue
			}
			columns, _ = matrix.Turn(upsideDown(a))
			p, f, _ = qr.Factor(columns)
			upper().wants(t, a, rightToLeft(upsideDown(turned(f))), upsideDown(turned(p)))
		}
	}
}

// TestP15_2OrdersAreUnlike guards the tests above: what other orders would tell is another one.
func TestP15_2OrdersAreUnlike(t *testing.T) {
	d := dice(1511)
	for n := 2; n <= api.MaxDim; n++ {
		a := picked(n, n, d.near(-3, 6))
		r, q, _ := rq.Rq(a)
		p, f, _ := qr.Factor(a) // not turned
		if l, u, _ := rq.Lq(a); same(l, r) || same(u, q) || same(l, p) || same(u, p) || same(l, turned(f)) || same(u, turned(p)) {
			t.Errorf("%s: l %s, q %s", show(a), show(l), show(u))
		}
		for _, other := range []api.Matrix{a, rightToLeft(a), rightToLeft(upsideDown(a))} {
			p, f, _ := qr.Factor(turned(other))
			for _, rows := range []bool{true, false} {
				for _, cols := range []bool{true, false} {
					if same(flipped(turned(f), rows, cols), r) || same(flipped(turned(p), rows, cols), q) {
						t.Errorf("%s: r %s, q %s come of another order", show(a), show(r), show(q))
					}
				}
			}
		}
	}
}
