package qr_test

import (
	"math"
	"math/big"
	"testing"

	"dioptra/api"
	"dioptra/certify"
	"dioptra/qr"
)

// step: numbers stand in steps of 2^-step, products of two of them, and squares, in steps of 2^(-2 step), squares of what such products lack in steps of 2^(-4 step).
const step = 1074

// grid is a matrix of exact numbers, row by row.
type grid [][]*big.Int

// gridOf is m's numbers, each in steps of 2^-1074.
func gridOf(m api.Matrix) grid {
	g := make(grid, m.Rows)
	for i := range g {
		for k := range m.Cols {
			g[i] = append(g[i], units(*at(m, i, k)))
		}
	}
	return g
}

// lack is a less b times c, in steps of 2^-2148.
func lack(a, b, c grid) grid {
	g := make(grid, len(a))
	for i := range a {
		for k := range a[i] {
			n := new(big.Int).Lsh(a[i][k], step)
			for j := range c {
				n.Sub(n, new(big.Int).Mul(b[i][j], c[j][k]))
			}
			g[i] = append(g[i], n)
		}
	}
	return g
}

// square is the sum of squares.
func (g grid) square() *big.Int {
	total := new(big.Int)
	for _, row := range g {
		for _, n := range row {
			total.Add(total, new(big.Int).Mul(n, n))
		}
	}
	return total
}

// small tells whether x is at most a part in 2^k of y, both without their signs.
func small(x, y *big.Int, k uint) bool {
	return new(big.Int).Lsh(x, k).CmpAbs(y) <= 0
}

// finer is a square of numbers in the steps in which squares of what products lack stand.
func finer(square *big.Int) *big.Int {
	return new(big.Int).Lsh(square, 2*step)
}

// standsUpright tells whether q's columns do, but for a square of 2^-80.
func standsUpright(q api.Matrix) bool {
	one := units(api.One)
	return small(lack(gridOf(eye(q.Cols)), gridOf(turned(q)), gridOf(q)).square(), finer(one.Mul(one, one)), 80)
}

// wantsRightFactors holds P14.3, P14.4, P14.5 and P14.7 against numbers that are reckoned exactly.
func wantsRightFactors(t *testing.T, what string, a, q, r api.Matrix, e api.Errno) {
	t.Helper()
	if e != api.OK {
		t.Errorf("%s of %s: %v", what, show(a), e)
		return
	}
	for i := range r.Rows {
		for k := range min(i, r.Cols) {
			if *at(r, i, k) != api.Zero {
				t.Errorf("%s of %s: r %s: %x below the diagonal", what, show(a), show(r), *at(r, i, k))
			}
		}
	}
	wholes, rows := gridOf(a), gridOf(r)
	should := wholes.square()
	if !small(lack(wholes, gridOf(q), rows).square(), finer(should), 80) {
		t.Errorf("%s of %s: q %s times r %s is another one", what, show(a), show(q), show(r))
	}
	if !standsUpright(q) {
		t.Errorf("%s of %s: q %s does not stand upright", what, show(a), show(q))
	}
	if apart := rows.square(); !small(apart.Sub(apart, should), should, 36) {
		t.Errorf("%s of %s: r %s has another square", what, show(a), show(r))
	}
}

// middles are matrices of all sizes whose numbers are neither very great nor very small: of several sorts, of columns of unlike sorts, with multiples, with columns of noughts, and such as are 0 below their diagonal but for one number.
func middles(d *dice) []api.Matrix {
	var list []api.Matrix
	sorts := d.middle()
	for _, s := range sizes() {
		for _, pick := range sorts {
			m := picked(s[0], s[1], pick)
			list = append(list, m, picked(s[0], s[1], pick), d.upper(m))
			if s[0] == 0 || s[1] == 0 {
				continue
			}
			list = append(list, d.noughtColumn(m, 0), d.noughtColumn(m, d.below(s[1])))
			one := d.upper(m)
			*at(one, s[0]-1, 0) = api.One
			list = append(list, one)
			mixed := clone(m)
			for i := range s[0] {
				*at(mixed, i, s[1]-1) = sorts[d.below(len(sorts))]()
			}
			list = append(list, mixed)
		}
		for _, pick := range []func() api.Bits{d.small(9), d.near(-3, 6), d.near(-30, 60), d.near(-190, 380)} { // times the multiples' numbers they still are of the middle
			list = append(list, d.multiples(s[0], s[1], pick))
		}
	}
	return list
}

// TestMiddlesAreRight guards the tests of what follows.
func TestMiddlesAreRight(t *testing.T) {
	d := dice(1440)
	for _, m := range middles(&d) {
		for _, b := range m.Data {
			if f := math.Abs(float(b)); f != 0 && (f < math.Ldexp(1, -200) || f >= math.Ldexp(1, 200)) {
				t.Fatalf("%s: %v is very great or very small", show(m), f)
			}
		}
	}
}

// TestP14_3ZeroBelow: of whatever has factors r has just Zero below its diagonal, in both calls.
func TestP14_3ZeroBelow(t *testing.T) {
	d := dice(1441)
	told := 0
	for _, s := range sizes() {
		for _, pick := range d.sorts() {
			for _, a := range []api.Matrix{picked(s[0], s[1], pick), d.upper(picked(s[0], s[1], pick))} {
				for _, ask := range calls() {
					_, r, e := ask(a)
					if e == api.OK {
						told++
					}
					for i := range r.Rows {
						for k := range min(i, r.Cols) {
							if *at(r, i, k) != api.Zero {
								t.Errorf("%s: r %s: %x below the diagonal", show(a), show(r), *at(r, i, k))
							}
						}
					}
				}
			}
		}
	}
	if told < 2000 {
		t.Errorf("%d matrices had factors", told)
	}
}

// TestP14_4to7: of numbers of the middle there are factors, whose product is the matrix (P14.4), whose columns stand upright (P14.5), and whose square is the matrix's (P14.7).
func TestP14_4to7(t *testing.T) {
	d := dice(1442)
	for _, a := range middles(&d) {
		q, r, e := qr.Factor(a)
		wantsRightFactors(t, "Factor", a, q, r, e)
	}
}

// TestP14_6Thin: the same of thin factors.
func TestP14_6Thin(t *testing.T) {
	d := dice(1443)
	for _, a := range middles(&d) {
		q, r, e := qr.Thin(a)
		wantsRightFactors(t, "Thin", a, q, r, e)
	}
}

// TestP14_5Rows: q has as many rows as columns, so its rows stand upright as well.
func TestP14_5Rows(t *testing.T) {
	d := dice(1444)
	for _, a := range middles(&d) {
		q, _, _ := qr.Factor(a)
		if !standsUpright(turned(q)) {
			t.Errorf("%s: the rows of q %s do not stand upright", show(a), show(q))
		}
	}
}

// TestP6Verdicts: the certifying layer says of the factors what is reckoned here, and that they are near enough.
func TestP6Verdicts(t *testing.T) {
	d := dice(1445)
	one, _ := certify.Square(of(1, 1, api.One))
	for n, a := range middles(&d) {
		if n%5 != 0 {
			continue
		}
		for _, ask := range calls() {
			q, r, _ := ask(a)
			off, e := certify.Residual(a, q, r)
			all, f := certify.Square(a)
			tilt, g := certify.Orthogonal(q)
			near, _ := certify.Within(off, all, 40)
			stands, _ := certify.Within(tilt, one, 40)
			if !near || !stands || e != api.OK || f != api.OK || g != api.OK {
				t.Errorf("%s: q %s, r %s: %v, %v, %v, %v, %v", show(a), show(q), show(r), near, stands, e, f, g)
			}
		}
	}
}

// TestP14_2Back: q turned, times the matrix, is r, but for a part in 2^40 of its norm.
func TestP14_2Back(t *testing.T) {
	d := dice(1446)
	for _, a := range middles(&d) {
		q, r, _ := qr.Factor(a)
		got, e := qr.Turned(q, a)
		apart := gridOf(r)
		for i, row := range gridOf(got) {
			for k, n := range row {
				apart[i][k].Sub(apart[i][k], n)
			}
		}
		if e != api.OK || !small(apart.square(), gridOf(a).square(), 80) {
			t.Errorf("%s: q turned times it is %s, %v; r is %s", show(a), show(got), e, show(r))
		}
	}
}

// alike tells whether a and b are of one size, and have the same values in each place.
func alike(a, b api.Matrix) bool {
	if a.Rows != b.Rows || a.Cols != b.Cols || len(a.Data) != len(b.Data) {
		return false
	}
	for i := range a.Data {
		if float(a.Data[i]) != float(b.Data[i]) {
			return false
		}
	}
	return true
}

// TestP4Signs: with all signs turned a matrix has the same q, and r with its signs turned, but for those of noughts.
func TestP4Signs(t *testing.T) {
	d := dice(1447)
	for _, a := range middles(&d) {
		q, r, _ := qr.Factor(a)
		other, turned, e := qr.Factor(each(a, minus))
		if !same(q, other) || !alike(turned, each(r, minus)) || e != api.OK {
			t.Errorf("%s: q %s, r %s; with turned signs %s, %s, %v", show(a), show(q), show(r), show(other), show(turned), e)
		}
	}
}

// TestP4Sizes: times a power of two a matrix has the same q, and r is that times as much, where nothing is too small.
func TestP4Sizes(t *testing.T) {
	d := dice(1448)
	for _, a := range middles(&d) {
		q, r, _ := qr.Factor(a)
		for _, k := range []int{-100, -1, 1, 53, 700} {
			times := func(b api.Bits) api.Bits { return says(math.Ldexp(float(b), k)) }
			other, more, e := qr.Factor(each(a, times))
			if !same(q, other) || !same(more, each(r, times)) || e != api.OK {
				t.Errorf("%s: q %s, r %s; times 2^%d %s, %s, %v", show(a), show(q), show(r), k, show(other), show(more), e)
			}
		}
	}
}
