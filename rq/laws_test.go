package rq_test

import (
	"math"
	"math/big"
	"slices"
	"testing"

	"dioptra/api"
	"dioptra/certify"
	"dioptra/matrix"
	"dioptra/rq"
)

// step: numbers stand in steps of 2^-step, products of two of them, and squares, in steps of 2^(-2 step), squares of what such products lack in steps of 2^(-4 step).
const step = 1074

// grid is a matrix of exact numbers, row by row.
type grid [][]*big.Int

// gridOf is m's numbers, each in steps of 2^-1074.
func gridOf(m api.Matrix) grid {
	g := make(grid, m.Rows)
	for i := range g {
		for k := range m.Cols {
			g[i] = append(g[i], units(*at(m, i, k)))
		}
	}
	return g
}

// lack is a less b times c, in steps of 2^-2148.
func lack(a, b, c grid) grid {
	g := make(grid, len(a))
	for i := range a {
		for k := range a[i] {
			n := new(big.Int).Lsh(a[i][k], step)
			for j := range c {
				n.Sub(n, new(big.Int).Mul(b[i][j], c[j][k]))
			}
			g[i] = append(g[i], n)
		}
	}
	return g
}

// square is the sum of squares.
func (g grid) square() *big.Int {
	total := new(big.Int)
	for _, row := range g {
		for _, n := range row {
			total.Add(total, new(big.Int).Mul(n, n))
		}
	}
	return total
}

// small tells whether x is at most a part in 2^80 of y, which stands in the steps of squares of numbers, and x in those of squares of what products lack.
func small(x, y *big.Int) bool {
	return new(big.Int).Lsh(x, 80).Cmp(new(big.Int).Lsh(y, 2*step)) <= 0
}

// isProduct tells whether b times c is a but for a part in 2^80 of its square.
func isProduct(a, b, c api.Matrix) bool {
	exact := gridOf(a)
	return small(lack(exact, gridOf(b), gridOf(c)).square(), exact.square())
}

// standsUpright tells whether q's rows do, but for a square of 2^-80.
func standsUpright(q api.Matrix) bool {
	one := units(api.One)
	return small(lack(gridOf(eye(q.Rows)), gridOf(q), gridOf(turned(q))).square(), one.Mul(one, one))
}

// TestExactIsRight guards the tests of what follows: one bit too many is seen, and one too few is let be.
func TestExactIsRight(t *testing.T) {
	for _, c := range []struct {
		a, b, c api.Matrix
		want    bool
	}{
		{of(1, 1, three), of(1, 1, three), of(1, 1, api.One), true},
		{of(1, 1, api.One), of(1, 1, api.One), of(1, 1, api.One+1<<12), true}, // 2^-40 is off by just the part
		{of(1, 1, api.One), of(1, 1, api.One), of(1, 1, api.One+1<<12+1), false},
		{of(1, 2, api.One, two), of(1, 2, two, api.One), of(2, 2, api.Zero, api.One, api.One, api.Zero), true},
		{of(1, 2, api.One, two), of(1, 2, two, api.One), of(2, 2, api.One, api.Zero, api.Zero, api.One), false},
		{filled(2, 2, api.Zero), filled(2, 2, api.NegZero), eye(2), true},
		{of(1, 1, api.Zero), of(1, 1, least), of(1, 1, least), false}, // of nothing no part is small
		{of(2, 0), of(2, 0), of(0, 0), true},
	} {
		if got := isProduct(c.a, c.b, c.c); got != c.want {
			t.Errorf("%s of %s and %s: %v", show(c.a), show(c.b), show(c.c), got)
		}
	}
	for _, c := range []struct {
		q    api.Matrix
		want bool
	}{{of(0, 0), true}, {eye(6), true}, {upsideDown(eye(5)), true}, {of(1, 1, minus(api.One)), true}, {of(1, 1, api.One+1<<11), false}, {of(1, 1, api.One+1<<11-1), true}, {of(2, 2, api.One, power(-40), api.Zero, api.One), false}, {of(2, 2, api.One, power(-41), api.Zero, api.One), true}, {of(1, 2, api.One, api.Zero), true}, {of(2, 1, api.One, api.Zero), false}} {
		if got := standsUpright(c.q); got != c.want {
			t.Errorf("%s stands upright: %v", show(c.q), got)
		}
	}
}

// middles are matrices of all sizes whose numbers are neither very great nor very small: of several sorts, of rows of unlike sorts, with multiples, with rows of noughts, and such as have their noughts already.
func middles(d *dice) []api.Matrix {
	var list []api.Matrix
	sorts := d.middle()
	for _, s := range sizes() {
		for _, pick := range sorts {
			m := picked(s[0], s[1], pick)
			list = append(list, m, d.bare(m, aboveDiagonal), d.bare(m, aheadOfCorner), d.bare(m, behindCounter))
			if s[0] == 0 || s[1] == 0 {
				continue
			}
			list = append(list, d.noughtRow(m, 0), d.noughtRow(m, d.below(s[0])))
			one := d.bare(m, aboveDiagonal)
			*at(one, 0, s[1]-1) = api.One
			mixed := clone(m)
			for k := range s[1] {
				*at(mixed, s[0]-1, k) = sorts[d.below(len(sorts))]()
			}
			list = append(list, one, mixed)
		}
		for _, pick := range []func() api.Bits{d.small(9), d.near(-3, 6), d.near(-30, 60), d.near(-190, 380)} { // times the multiples' numbers they still are of the middle
			list = append(list, d.multiples(s[0], s[1], pick))
		}
	}
	return list
}

// TestMiddlesAreRight guards the tests of what follows.
func TestMiddlesAreRight(t *testing.T) {
	d := dice(1540)
	for _, m := range middles(&d) {
		for _, b := range m.Data {
			if f := math.Abs(float(b)); f != 0 && (f < math.Ldexp(1, -200) || f >= math.Ldexp(1, 200)) {
				t.Fatalf("%s: %v is very great or very small", show(m), f)
			}
		}
	}
}

// wantsZeros looks after the places in which the first factor is to have just Zero, and tells how many they are.
func (w way) wantsZeros(t *testing.T, a, first api.Matrix) int {
	t.Helper()
	places := 0
	for i := range first.Rows {
		for k := range first.Cols {
			if !w.zeros(first, i, k) {
				continue
			}
			places++
			if b := *at(first, i, k); b != api.Zero {
				t.Errorf("%s of %s: %s: %x in row %d, column %d", w.name, show(a), show(first), b, i, k)
			}
		}
	}
	return places
}

// TestP15_3JustZero: of whatever has factors, the first one has just Zero at each of its places, no nought below 0.
func TestP15_3JustZero(t *testing.T) {
	d := dice(1541)
	told := map[string]int{}
	for _, s := range sizes() {
		for _, pick := range d.sorts() {
			m := picked(s[0], s[1], pick)
			for _, a := range []api.Matrix{m, d.bare(m, aboveDiagonal), d.bare(m, aheadOfCorner), d.bare(m, behindCounter), each(m, minus), d.noughtRow(m, d.below(s[0]+1))} {
				for _, w := range ways() {
					first, _, e := w.ask(a)
					if places := w.wantsZeros(t, a, first); e == api.OK && places > 0 {
						told[w.name]++
					}
				}
			}
		}
	}
	if told["Lq"] < 2000 || told["Rq"] < 1000 {
		t.Errorf("matrices that had factors: %v", told)
	}
}

// TestP15_3NegZero: where noughts below 0 stand already, or all signs are turned, Zero is told all the same.
func TestP15_3NegZero(t *testing.T) {
	for _, s := range sizes() {
		for _, b := range []api.Bits{api.NegZero, minus(three), minus(least)} {
			for _, told := range []func(m api.Matrix, i, k int) bool{aboveDiagonal, aheadOfCorner, behindCounter} {
				a := filled(s[0], s[1], b)
				for i := range s[0] {
					for k := range s[1] {
						if told(a, i, k) {
							*at(a, i, k) = api.NegZero
						}
					}
				}
				for _, w := range ways() {
					first, _, e := w.ask(a)
					w.wantsZeros(t, a, first)
					if w.fits(a) != (e == api.OK) {
						t.Errorf("%s of %s: %v", w.name, show(a), e)
					}
				}
			}
		}
	}
}

// TestP15_3Places: which places they are, of a few sizes, by hand: all others are no noughts.
func TestP15_3Places(t *testing.T) {
	d := dice(1542)
	const x = api.One
	for _, c := range []struct {
		w    way
		want api.Matrix
	}{
		{lower(), of(2, 2, x, 0, x, x)},
		{lower(), of(2, 4, x, 0, 0, 0, x, x, 0, 0)},
		{lower(), of(4, 2, x, 0, x, x, x, x, x, x)},
		{lower(), of(3, 3, x, 0, 0, x, x, 0, x, x, x)},
		{lower(), of(1, 3, x, 0, 0)},
		{lower(), of(3, 1, x, x, x)},
		{upper(), of(2, 2, x, x, 0, x)},
		{upper(), of(2, 4, 0, 0, x, x, 0, 0, 0, x)},
		{upper(), of(3, 3, x, x, x, 0, x, x, 0, 0, x)},
		{upper(), of(3, 4, 0, x, x, x, 0, 0, x, x, 0, 0, 0, x)},
		{upper(), of(1, 3, 0, 0, x)},
	} {
		a := picked(c.want.Rows, c.want.Cols, d.near(-3, 6))
		first, _, e := c.w.ask(a)
		got := each(first, func(b api.Bits) api.Bits {
			if plus(b) != api.Zero {
				return x
			}
			return b
		})
		if !same(got, c.want) || e != api.OK {
			t.Errorf("%s of %s: %s, %v", c.w.name, show(a), show(first), e)
		}
	}
}

// TestP15_4and5: of numbers of the middle there are factors, whose product is the matrix (P15.4), and whose rows stand upright (P15.5).
func TestP15_4and5(t *testing.T) {
	d := dice(1543)
	for _, a := range middles(&d) {
		for _, w := range ways() {
			if !w.fits(a) {
				w.wantsNone(t, a, api.ErrShape)
				continue
			}
			first, q, e := w.ask(a)
			if e != api.OK {
				t.Errorf("%s of %s: %v", w.name, show(a), e)
				continue
			}
			w.wantsZeros(t, a, first)
			if !isProduct(a, first, q) {
				t.Errorf("%s of %s: %s times %s is another one", w.name, show(a), show(first), show(q))
			}
			if !standsUpright(q) {
				t.Errorf("%s of %s: the rows of %s do not stand upright", w.name, show(a), show(q))
			}
		}
	}
}

// TestP6Verdicts: the certifying layer says of the factors what is reckoned here.
func TestP6Verdicts(t *testing.T) {
	d := dice(1544)
	one, _ := certify.Square(of(1, 1, api.One))
	for n, a := range middles(&d) {
		for _, w := range ways() {
			if n%7 != 0 || !w.fits(a) {
				continue
			}
			first, q, _ := w.ask(a)
			off, e := certify.Residual(a, first, q)
			whole, f := certify.Square(a)
			tilt, g := certify.Orthogonal(turned(q))
			near, _ := certify.Within(off, whole, 40)
			stands, _ := certify.Within(tilt, one, 40)
			if !near || !stands || e != api.OK || f != api.OK || g != api.OK {
				t.Errorf("%s of %s: %s, %s: %v, %v, %v, %v, %v", w.name, show(a), show(first), show(q), near, stands, e, f, g)
			}
		}
	}
}

// TestP15_1Laws: twice is not at all; both at once are one after the other, in either order, and all numbers backwards; upside down and turned is turned and right to left.
func TestP15_1Laws(t *testing.T) {
	d := dice(1545)
	flip := func(m api.Matrix, rows, cols bool) api.Matrix {
		r, e := rq.Flip(m, rows, cols)
		if e != api.OK {
			t.Errorf("Flip(%s, %v, %v): %v", show(m), rows, cols, e)
		}
		return r
	}
	for _, s := range sizes() {
		for _, m := range []api.Matrix{counted(s[0], s[1]), picked(s[0], s[1], d.any())} {
			for _, p := range pairs() {
				if !same(flip(flip(m, p[0], p[1]), p[0], p[1]), m) {
					t.Errorf("%s: twice %v is another one", show(m), p)
				}
			}
			both := flip(m, true, true)
			back := clone(m)
			slices.Reverse(back.Data)
			if !same(both, back) || !same(both, flip(flip(m, true, false), false, true)) || !same(both, flip(flip(m, false, true), true, false)) {
				t.Errorf("%s: both at once %s", show(m), show(both))
			}
			columns, _ := matrix.Turn(m)
			down, _ := matrix.Turn(flip(m, true, false))
			if !same(down, flip(columns, false, true)) {
				t.Errorf("%s: upside down and turned %s", show(m), show(down))
			}
		}
	}
}
