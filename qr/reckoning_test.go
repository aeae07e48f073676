package qr_test

import (
	"fmt"
	"math"
	"testing"

	"dioptra/api"
	"dioptra/house"
	"dioptra/matrix"
	"dioptra/qr"
)

// gosDot is the sum of products by the machine's own numbers. The conversions keep it from rounding once for two operations.
func gosDot(x, y []float64) float64 {
	s := 0.0
	for i := range x {
		s = float64(s + float64(x[i]*y[i]))
	}
	return s
}

// gosNorm is the norm of numbers that are finite, and not all noughts.
func gosNorm(x []float64) float64 {
	most := 0.0
	for _, f := range x {
		most = max(most, math.Abs(f))
	}
	k := math.Ilogb(most)
	t := make([]float64, len(x))
	for i, f := range x {
		t[i] = math.Ldexp(f, -k)
	}
	return math.Ldexp(math.Sqrt(gosDot(t, t)), k)
}

// gosMirror is what a mirror is by the machine's own numbers.
type gosMirror struct {
	v         []float64
	tau, beta float64
}

// gosMake is x's mirror, and whether there is one.
func gosMake(x []float64) (gosMirror, bool) {
	v := make([]float64, len(x))
	v[0] = 1
	sign, others := 0.0, false
	for i, f := range x {
		if !isFinite(f) {
			return gosMirror{}, false
		}
		if f != 0 && sign == 0 {
			sign = math.Copysign(1, f)
		}
		others = others || i > 0 && f != 0
	}
	if !others {
		return gosMirror{v, 0, x[0]}, true
	}
	beta := -sign * gosNorm(x)
	d := x[0] - beta
	if !isFinite(beta) || !isFinite(d) {
		return gosMirror{}, false
	}
	for i := 1; i < len(x); i++ {
		v[i] = x[i] / d
	}
	return gosMirror{v, float64(beta-x[0]) / beta, beta}, true
}

// table is a matrix of the machine's own numbers, row by row.
type table [][]float64

func tableOf(m api.Matrix) table {
	t := make(table, m.Rows)
	for i := range t {
		for k := range m.Cols {
			t[i] = append(t[i], float(*at(m, i, k)))
		}
	}
	return t
}

// matrix is a right matrix of so many columns.
func (t table) matrix(cols int) api.Matrix {
	m := of(len(t), cols)
	for _, row := range t {
		for _, f := range row {
			m.Data = append(m.Data, says(f))
		}
	}
	return m
}

// column is column k from row i on.
func (t table) column(i, k int) []float64 {
	var x []float64
	for _, row := range t[i:] {
		x = append(x, row[k])
	}
	return x
}

// mirror mirrors t from row i and column k on.
func (t table) mirror(m gosMirror, i, k int) {
	for c := k; c < len(t[i]); c++ {
		s := float64(m.tau * gosDot(m.v, t.column(i, c)))
		for j, v := range m.v {
			t[i+j][c] = float64(t[i+j][c] - float64(s*v))
		}
	}
}

func (t table) finite() bool {
	for _, row := range t {
		for _, f := range row {
			if !isFinite(f) {
				return false
			}
		}
	}
	return true
}

// gosFactors are the factors of a right matrix of finite numbers by the machine's own ones; how many mirrors were made, and whether all that could be.
func gosFactors(a api.Matrix) (q, r api.Matrix, made int, ok bool) {
	down, up := tableOf(a), tableOf(eye(a.Rows))
	var mirrors []gosMirror
	for j := 0; j < a.Cols && j < a.Rows-1; j++ {
		m, is := gosMake(down.column(j, j))
		if !is {
			return q, r, j, false
		}
		down.mirror(m, j, j)
		down[j][j] = m.beta
		for i := j + 1; i < a.Rows; i++ {
			down[i][j] = 0
		}
		mirrors = append(mirrors, m)
	}
	for j := len(mirrors) - 1; j >= 0; j-- {
		up.mirror(mirrors[j], j, 0)
	}
	if !down.finite() || !up.finite() {
		return q, r, len(mirrors), false
	}
	return up.matrix(a.Rows), down.matrix(a.Cols), len(mirrors), true
}

func wantsGos(t *testing.T, a api.Matrix) {
	t.Helper()
	if q, r, _, ok := gosFactors(a); ok {
		wantsFactors(t, a, q, r)
	} else {
		wantsNone(t, a, api.ErrRange)
	}
}

// TestP14_1GosOwn goes over all sizes with numbers of all sorts, of very unlike sizes, the greatest and the least among them.
func TestP14_1GosOwn(t *testing.T) {
	d := dice(1401)
	for _, s := range sizes() {
		for _, pick := range d.sorts() {
			for range 6 {
				wantsGos(t, picked(s[0], s[1], pick))
			}
		}
	}
}

// TestP14_1GosOwnSquare: of just MaxDim rows and columns, where all mirrors are made one after another.
func TestP14_1GosOwnSquare(t *testing.T) {
	d := dice(1402)
	for _, pick := range d.sorts() {
		for range 40 {
			wantsGos(t, picked(api.MaxDim, api.MaxDim, pick))
		}
	}
}

// TestP14_1Mixed: columns of one sort, then such of another one.
func TestP14_1Mixed(t *testing.T) {
	d := dice(1403)
	for _, one := range d.sorts() {
		for _, other := range d.sorts() {
			m := picked(2+d.below(5), 2+d.below(5), other)
			from := d.below(m.Cols)
			for i := range m.Rows {
				for k := range from {
					*at(m, i, k) = one()
				}
			}
			wantsGos(t, m)
		}
	}
}

// TestP14_1NoughtColumns: a column of noughts of either sign, at each place, the first one too.
func TestP14_1NoughtColumns(t *testing.T) {
	d := dice(1404)
	for _, s := range sizes() {
		for k := range s[1] {
			for _, pick := range []func() api.Bits{d.near(-3, 6), d.small(3), d.out(finites())} {
				m := d.noughtColumn(picked(s[0], s[1], pick), k)
				wantsGos(t, m)
				wantsGos(t, d.noughtColumn(m, d.below(s[1])))
			}
			wantsGos(t, picked(s[0], s[1], d.out(noughts())))
		}
	}
}

// TestP14_1UpperAlready: what is 0 below its diagonal is told as it is, with noughts of either sign made Zero there; q is Eye.
func TestP14_1UpperAlready(t *testing.T) {
	d := dice(1405)
	for _, s := range sizes() {
		for _, pick := range append(d.sorts(), d.out(finites())) {
			m := d.upper(picked(s[0], s[1], pick))
			wantsGos(t, m)
			plus := each(m, func(b api.Bits) api.Bits { return b &^ api.NegZero }) // with no NegZero in it nothing changes
			wantsFactors(t, plus, eye(s[0]), plus)
		}
	}
}

// TestP14_1NoughtInFront: columns whose first number, from the diagonal on, is a nought, and another one is none.
func TestP14_1NoughtInFront(t *testing.T) {
	d := dice(1406)
	for _, s := range sizes() {
		for _, nought := range noughts() {
			for _, pick := range []func() api.Bits{d.near(-3, 6), d.small(2), d.out(finites())} {
				m := picked(s[0], s[1], pick)
				for k := range min(s[0], s[1]) {
					*at(m, k, k) = nought
				}
				wantsGos(t, m)
				for k := range s[1] {
					for i := range min(s[0], 1+d.below(6)) {
						*at(m, i, k) = nought
					}
				}
				wantsGos(t, m)
			}
		}
	}
}

// TestP14_1Multiples: columns that are multiples of one another.
func TestP14_1Multiples(t *testing.T) {
	d := dice(1407)
	for _, s := range sizes() {
		for _, pick := range append(d.middle(), d.tiny(), d.near(-1022, 4)) {
			wantsGos(t, d.multiples(s[0], s[1], pick))
		}
	}
}

// TestP14_1Swapped: one One in each row and column, of either sign, at whatever places.
func TestP14_1Swapped(t *testing.T) {
	d := dice(1408)
	for range 300 {
		n := 1 + d.below(api.MaxDim)
		m := filled(n, n, api.Zero)
		places := make([]int, n)
		for i := range places {
			k := d.below(i + 1)
			places[i], places[k] = places[k], i
		}
		for i, k := range places {
			*at(m, i, k) = d.out([]api.Bits{api.One, minus(api.One), power(-300), power(300)})()
		}
		wantsGos(t, m)
	}
}

// TestP14_1Sorts guards the tests above: matrices of numbers near the greatest one come to all that there is.
func TestP14_1Sorts(t *testing.T) {
	d := dice(1409)
	count := map[string]int{}
	for range 6000 {
		m := picked(3, 3, d.sparse(d.near(1019, 5)))
		wantsGos(t, m)
		_, _, made, ok := gosFactors(m)
		count[fmt.Sprint(made, ok)]++
	}
	for _, which := range []string{"2 true", "0 false", "1 false", "2 false"} {
		if count[which] < 50 {
			t.Errorf("of which sort: %v", count)
		}
	}
}

// TestP14_1ByHand: the examples, and such as tell beta and Zero from what mirroring gives, and the last mirror's turn from the first one's.
func TestP14_1ByHand(t *testing.T) {
	upright := of(2, 2, 0xbfe3333333333334, 0xbfe999999999999a, 0xbfe999999999999a, 0x3fe3333333333333)
	wantsFactors(t, of(2, 1, three, four), upright, of(2, 1, minus(five), api.Zero))
	wantsFactors(t, of(2, 1, minus(three), minus(four)), upright, of(2, 1, five, api.Zero))
	wantsFactors(t, of(2, 1, api.Zero, api.One), of(2, 2, api.Zero, minus(api.One), minus(api.One), api.Zero), of(2, 1, minus(api.One), api.Zero))
	wantsFactors(t, of(2, 1, api.NegZero, minus(two)), of(2, 2, api.Zero, minus(api.One), minus(api.One), api.Zero), of(2, 1, two, api.Zero))
	wantsFactors(t, of(2, 2, api.Zero, api.One, api.One, api.Zero), of(2, 2, api.Zero, minus(api.One), minus(api.One), api.Zero), of(2, 2, minus(api.One), api.Zero, api.Zero, minus(api.One)))
	wantsFactors(t, of(2, 1, api.NegZero, api.NegZero), eye(2), of(2, 1, api.NegZero, api.Zero)) // beta is the first number as it came in
	wantsFactors(t, of(2, 1, minus(three), api.NegZero), eye(2), of(2, 1, minus(three), api.Zero))
	wantsFactors(t, of(1, 1, minus(three)), eye(1), of(1, 1, minus(three))) // of one row there is no mirror
	round := of(3, 3, api.Zero, api.Zero, api.One, api.One, api.Zero, api.Zero, api.Zero, api.One, api.Zero)
	upright = of(3, 3, api.Zero, api.Zero, api.One, minus(api.One), api.Zero, api.Zero, api.Zero, minus(api.One), api.Zero) // mirrored by the first mirror first it were turned
	wantsFactors(t, round, upright, of(3, 3, minus(api.One), api.Zero, api.Zero, api.Zero, minus(api.One), api.Zero, api.Zero, api.Zero, api.One))
}

// TestP14_1NoMirror: where j is not below n and below m - 1 r is a as it came in, noughts and all, and q is Eye.
func TestP14_1NoMirror(t *testing.T) {
	d := dice(1410)
	for n := range api.MaxDim + 1 {
		for _, pick := range append(d.sorts(), d.out(finites())) {
			wantsFactors(t, of(0, n), of(0, 0), of(0, n))
			wantsFactors(t, of(n, 0), eye(n), of(n, 0))
			row := picked(1, n, pick)
			wantsFactors(t, row, eye(1), row)
		}
	}
}

// TestP14_1LostDigits: a column that mirrors before it have made so small that its own mirror has but few digits is factored in the written order all the same, though its q does not stand upright.
func TestP14_1LostDigits(t *testing.T) {
	for _, last := range []int{0, 199} {
		a := filled(6, 6, api.Zero)
		for k := range 3 {
			*at(a, k, k), *at(a, k+1, k) = power(199), power(-200)
		}
		for i := 3; i < 6; i++ {
			*at(a, i, 2) = power(124)
		}
		*at(a, 0, 3), *at(a, 3, 4), *at(a, 4, 5) = power(-200), power(last), power(last)
		wantsGos(t, a)
		if _, r, e := qr.Factor(a); *at(r, 3, 3) != 3 || e != api.OK { // thrice the least number
			t.Errorf("%s: r %s, %v", show(a), show(r), e)
		}
	}
}

// TestP14_1BetaAndZero: what stands on the diagonal and below it is not what mirroring gives there; numbers in which that is another one must be among those that are tested.
func TestP14_1BetaAndZero(t *testing.T) {
	d := dice(1411)
	others := [2]int{}
	for range 400 {
		m := picked(2+d.below(5), 1+d.below(6), d.near(-3, 6))
		column, _ := matrix.Part(m, 0, 0, m.Rows, 1)
		v, tau, beta, _ := house.Make(column.Data)
		mirrored, _ := house.Apply(m, 0, 0, v, tau)
		_, r, e := qr.Factor(m)
		if *at(r, 0, 0) != beta || e != api.OK {
			t.Errorf("%s: r %s, %v; wanted %x at the first place", show(m), show(r), e, beta)
		}
		if *at(mirrored, 0, 0) != beta {
			others[0]++
		}
		for i := 1; i < m.Rows; i++ {
			if *at(r, i, 0) != api.Zero {
				t.Errorf("%s: r %s", show(m), show(r))
			}
			if *at(mirrored, i, 0) != api.Zero {
				others[1]++
			}
		}
	}
	if others[0] < 50 || others[1] < 50 {
		t.Errorf("other numbers came of mirroring %v times", others)
	}
}

// TestP1ByLayersBelow: the factors are what the calls of layers 10 and 13 give, one after another.
func TestP1ByLayersBelow(t *testing.T) {
	d := dice(1412)
	for _, s := range sizes() {
		for _, pick := range d.middle() {
			a := picked(s[0], s[1], pick)
			r, q := clone(a), eye(a.Rows)
			var vs [][]api.Bits
			var taus []api.Bits
			for j := 0; j < a.Cols && j < a.Rows-1; j++ {
				column, _ := matrix.Part(r, j, j, a.Rows-j, 1)
				v, tau, beta, _ := house.Make(column.Data)
				r, _ = house.Apply(r, j, j, v, tau)
				*at(r, j, j) = beta
				for i := j + 1; i < a.Rows; i++ {
					*at(r, i, j) = api.Zero
				}
				vs, taus = append(vs, v), append(taus, tau)
			}
			for j := len(vs) - 1; j >= 0; j-- {
				q, _ = house.Apply(q, j, 0, vs[j], taus[j])
			}
			wantsFactors(t, a, q, r)
		}
	}
}

// gosTurned is q turned, times b, by the machine's own numbers.
func gosTurned(q, b api.Matrix) api.Matrix {
	columns, others := tableOf(q), tableOf(b)
	m := of(q.Cols, b.Cols)
	for i := range q.Cols {
		for k := range b.Cols {
			m.Data = append(m.Data, says(gosDot(columns.column(0, i), others.column(0, k))))
		}
	}
	return m
}

// TestP14_2GosOwn goes over all sizes that go together, with numbers of all kinds.
func TestP14_2GosOwn(t *testing.T) {
	d := dice(1413)
	for _, s := range sizes() {
		for n := range api.MaxDim + 1 {
			for _, pick := range append(d.sorts(), d.out(all()), d.any()) {
				q, b := picked(s[0], s[1], pick), picked(s[0], n, pick)
				got, e := qr.Turned(q, b)
				if want := gosTurned(q, b); !same(got, want) || e != api.OK {
					t.Errorf("Turned(%s, %s): %s, %v; wanted %s", show(q), show(b), show(got), e, show(want))
				}
				if want, f := matrix.Mul(turned(q), b); !same(got, want) || e != f {
					t.Errorf("Turned(%s, %s): %s, %v; Mul says %s, %v", show(q), show(b), show(got), e, show(want), f)
				}
			}
		}
	}
}

func TestP14_2ByHand(t *testing.T) {
	q := of(2, 2, api.One, two, three, four)
	for _, c := range []struct{ b, want api.Matrix }{
		{of(2, 1, api.One, api.Zero), of(2, 1, api.One, two)},
		{of(2, 1, api.Zero, minus(api.One)), of(2, 1, minus(three), minus(four))},
		{of(2, 1, api.One, api.One), of(2, 1, four, says(6))},
		{of(2, 0), of(2, 0)},
		{of(2, 2, api.Inf, api.NaN+1, api.One, api.One), of(2, 2, api.Inf, api.NaN, api.Inf, api.NaN)},
	} {
		if got, e := qr.Turned(q, c.b); !same(got, c.want) || e != api.OK {
			t.Errorf("Turned(%s, %s): %s, %v; wanted %s", show(q), show(c.b), show(got), e, show(c.want))
		}
	}
	if got, e := qr.Turned(of(0, 2), of(0, 3)); !same(got, filled(2, 3, api.Zero)) || e != api.OK {
		t.Errorf("of no rows: %s, %v", show(got), e)
	}
}
