package solve_test

import (
	"math"
	"math/big"
	"testing"

	"dioptra/api"
	"dioptra/certify"
	"dioptra/dyadic"
	"dioptra/solve"
)

// step: numbers stand in steps of 2^-step, products of two of them, and squares, in steps of 2^(-2 step).
const step = 1074

// grid is a matrix of exact numbers, row by row.
type grid [][]*big.Int

// gridOf is m's numbers, each in steps of 2^-1074.
func gridOf(m api.Matrix) grid {
	g := make(grid, m.Rows)
	for i := range g {
		for k := range m.Cols {
			g[i] = append(g[i], units(*at(m, i, k)))
		}
	}
	return g
}

// lack is a x, less b, in steps of 2^-2148.
func lack(a, x, b grid) grid {
	g := make(grid, len(b))
	for i := range b {
		for c := range b[i] {
			n := new(big.Int).Lsh(b[i][c], step)
			n.Neg(n)
			for k := range x {
				n.Add(n, new(big.Int).Mul(a[i][k], x[k][c]))
			}
			g[i] = append(g[i], n)
		}
	}
	return g
}

// slope is a turned, times g, of cols columns.
func slope(a, g grid, cols int) grid {
	s := make(grid, cols)
	for k := range s {
		for c := range g[0] {
			n := new(big.Int)
			for i := range a {
				n.Add(n, new(big.Int).Mul(a[i][k], g[i][c]))
			}
			s[k] = append(s[k], n)
		}
	}
	return s
}

// square is the sum of squares.
func (g grid) square() *big.Int {
	total := new(big.Int)
	for _, row := range g {
		for _, n := range row {
			total.Add(total, new(big.Int).Mul(n, n))
		}
	}
	return total
}

// isNearest tells whether a turned, times (a x less b), has a square of at most a part in 2^70 of a's square times (a's times x's, and b's).
func isNearest(a, x, b api.Matrix) bool {
	if len(b.Data) == 0 { // then there is nothing that could be off
		return true
	}
	left, right, side := gridOf(a), gridOf(x), gridOf(b)
	tilt := slope(left, lack(left, right, side), a.Cols).square()
	whole := left.square()
	bound := new(big.Int).Mul(whole, right.square())
	bound.Add(bound, new(big.Int).Lsh(side.square(), 2*step))
	bound.Mul(bound, whole)
	return tilt.Lsh(tilt, 70).Cmp(bound) <= 0
}

// isBut tells whether each of x's columns is want's but for a part in 2^20 of its norm.
func isBut(x, want api.Matrix) bool {
	if x.Rows != want.Rows || x.Cols != want.Cols {
		return false
	}
	for c := range x.Cols {
		apart, all := new(big.Int), new(big.Int)
		for k := range x.Rows {
			n := units(*at(want, k, c))
			off := new(big.Int).Sub(units(*at(x, k, c)), n)
			all.Add(all, n.Mul(n, n))
			apart.Add(apart, off.Mul(off, off))
		}
		if apart.Lsh(apart, 40).Cmp(all) > 0 {
			return false
		}
	}
	return true
}

// TestExactIsRight guards the tests of what follows: one bit too many is seen, and one too few is let be.
func TestExactIsRight(t *testing.T) {
	for _, c := range []struct {
		a, x, b api.Matrix
		want    bool
	}{
		{wholes(2, 1, 1, 1), wholes(1, 1, 2), wholes(2, 1, 1, 3), true},
		{wholes(2, 1, 1, 1), of(1, 1, two+1<<19), wholes(2, 1, 1, 3), false},
		{wholes(2, 1, 3, 4), wholes(1, 2, 1, 0), wholes(2, 2, 3, 4, 4, -3), true}, // what stands upright on a has nothing of it
		{wholes(2, 1, 3, 4), wholes(1, 2, 1, 0), wholes(2, 2, 3, 4, 4, -4), false},
		{wholes(1, 1, 1), of(1, 1, power(-34)), wholes(1, 1, 0), false},
		{wholes(1, 1, 1), of(1, 1, api.Zero), of(1, 1, least), false},           // of nothing no part is small
		{wholes(1, 1, 1), of(1, 1, api.One+1<<17+1<<13), wholes(1, 1, 1), true}, // as b's square counts as well, and x's is above 1: 2^-35 times somewhat above sqrt 2
		{wholes(1, 1, 1), of(1, 1, api.One+1<<17+1<<16), wholes(1, 1, 1), false},
		{wholes(1, 1, 1024), of(1, 1, api.One+1<<17+1<<13), wholes(1, 1, 1024), true}, // sizes say nothing
		{wholes(1, 1, 1024), of(1, 1, api.One+1<<17+1<<16), wholes(1, 1, 1024), false},
		{of(0, 0), of(0, 3), of(0, 3), true},
		{of(3, 0), of(0, 1), of(3, 1, api.One, api.One, api.One), true},
		{eye(2), of(2, 0), of(2, 0), true},
	} {
		if got := isNearest(c.a, c.x, c.b); got != c.want {
			t.Errorf("%s, x %s, b %s: %v", show(c.a), show(c.x), show(c.b), got)
		}
	}
	for _, c := range []struct {
		x, want api.Matrix
		is      bool
	}{
		{of(1, 1, api.One+1<<32), wholes(1, 1, 1), true},
		{of(1, 1, api.One+1<<32+1), wholes(1, 1, 1), false},
		{of(2, 1, api.One, power(-20)), wholes(2, 1, 1, 0), true},
		{of(2, 1, api.One, power(-20)+1), wholes(2, 1, 1, 0), false},
		{of(1, 2, api.One, power(-20)), wholes(1, 2, 1, 0), false},
		{wholes(1, 1, 0), wholes(1, 1, 0), true},
		{of(2, 0), of(2, 0), true},
		{of(2, 0), of(0, 2), false},
	} {
		if got := isBut(c.x, c.want); got != c.is {
			t.Errorf("%s is %s: %v", show(c.x), show(c.want), got)
		}
	}
}

// ones is m with ones on its diagonal.
func ones(m api.Matrix) api.Matrix {
	m = clone(m)
	for k := range m.Rows {
		*at(m, k, k) = api.One
	}
	return m
}

// exactSolved is a triangle of whole numbers with ones on its diagonal solved without any rounding, in the machine's whole numbers.
func exactSolved(s solver, r, b api.Matrix) api.Matrix {
	n := r.Rows
	x := clone(b)
	for c := range b.Cols {
		for step := range n {
			i, from, to := step, 0, step
			if s.name == "Upper" {
				i, from, to = n-1-step, n-step, n
			}
			rest := int64(float(*at(b, i, c)))
			for k := from; k < to; k++ {
				rest -= int64(float(*at(r, i, k))) * int64(float(*at(x, k, c)))
			}
			*at(x, i, c) = says(float64(rest))
		}
	}
	return x
}

// TestP17_3Exact: of whole numbers below 2^20, ones on the diagonal and small whole numbers beside it, from above and from below.
func TestP17_3Exact(t *testing.T) {
	d := dice(1750)
	far := 0.0
	for _, s := range triangles() {
		for n := range api.MaxDim + 1 {
			for _, most := range []int{0, 1, 3, 9, 60} { // of just 60 all is below 2^51
				for range 20 {
					r, b := ones(picked(n, n, d.small(most))), picked(n, d.below(7), d.small(1<<20-1))
					want := exactSolved(s, r, b)
					s.wants(t, r, b, want)
					for _, number := range want.Data {
						far = max(far, math.Abs(float(number)))
					}
					for i := range r.Data { // what is on the other side may be of any size
						if (s.name == "Upper") == (i/n > i%n) && i/n != i%n {
							r.Data[i] = d.finite()()
						}
					}
					s.wants(t, r, b, want)
				}
			}
		}
	}
	if far < 1<<40 || far >= 1<<53 {
		t.Errorf("the greatest number told is %v", far)
	}
}

// TestP17_3Edges: the greatest whole numbers, with signs by which all is summed up.
func TestP17_3Edges(t *testing.T) {
	const most = 1<<20 - 1
	for _, s := range triangles() {
		for n := range api.MaxDim + 1 {
			for _, beside := range []int64{-60, -1, 0, 1, 60} {
				r := ones(wholes(n, n, repeated(beside, n*n)...))
				for _, side := range []int64{most, -most, 1, 0} {
					b := wholes(n, 2, repeated(side, 2*n)...)
					s.wants(t, r, b, exactSolved(s, r, b))
				}
			}
		}
	}
	upper.wants(t, wholes(3, 3, 1, -2, 3, 0, 1, 5, 0, 0, 1), wholes(3, 1, most, -most, most), wholes(3, 1, -14*most, -6*most, most))
	lower.wants(t, wholes(3, 3, 1, 0, 0, 5, 1, 0, 3, -2, 1), wholes(3, 1, most, -most, most), wholes(3, 1, most, -6*most, -14*most))
}

func repeated(n int64, times int) []int64 {
	var list []int64
	for range times {
		list = append(list, n)
	}
	return list
}

// TestP17_3Product: the triangle times what is told is b, exactly.
func TestP17_3Product(t *testing.T) {
	d := dice(1751)
	for n := 1; n <= api.MaxDim; n++ {
		for range 20 {
			r, b := ones(picked(n, n, d.small(9))), picked(n, 2, d.small(1<<20-1))
			for _, s := range triangles() {
				x, e := s.ask(r, b)
				sided := clone(r)
				for i := range n {
					for k := range n {
						if i != k && (s.name == "Upper") == (i > k) {
							*at(sided, i, k) = api.Zero
						}
					}
				}
				if off := lack(gridOf(sided), gridOf(x), gridOf(b)).square(); off.Sign() != 0 || e != api.OK {
					t.Errorf("%s of %s and %s: %s, %v", s.name, show(r), show(b), show(x), e)
				}
			}
		}
	}
}

// middles are pairs of matrices that go together, whose numbers are neither very great nor very small: of several sorts, with columns of unlike sorts, of sizes far apart, with columns that nearly hang on one another, and b's that are a's own.
func middles(d *dice) [][2]api.Matrix {
	var list [][2]api.Matrix
	sorts := d.middle()
	some := func() func() api.Bits { return sorts[d.below(len(sorts))] }
	for _, s := range tall() {
		for _, pick := range sorts {
			a := picked(s[0], s[1], pick)
			list = append(list, [2]api.Matrix{a, picked(s[0], d.below(7), pick)}, [2]api.Matrix{a, picked(s[0], 1, some())}, [2]api.Matrix{a, a}, [2]api.Matrix{a, filled(s[0], 1, api.NegZero)})
			if s[1] == 0 {
				continue
			}
			list = append(list, [2]api.Matrix{d.sided(a, d.near(-60, 120)), picked(s[0], 3, some())})
			mixed := clone(a)
			for k := range s[1] {
				column := some()
				for i := range s[0] {
					*at(mixed, i, k) = column()
				}
			}
			list = append(list, [2]api.Matrix{mixed, picked(s[0], 2, some())})
		}
		for e := range 50 {
			a := picked(s[0], s[1], d.near(-3, 6))
			if s[1] > 1 {
				for i := range s[0] { // the last column is the first one but for a part in 2^e
					*at(a, i, s[1]-1) = says(float(*at(a, i, 0)) + math.Ldexp(float(d.near(-3, 6)()), -e))
				}
			}
			list = append(list, [2]api.Matrix{a, picked(s[0], 1, d.near(-3, 6))})
		}
	}
	return list
}

// TestMiddlesAreRight guards the tests of what follows.
func TestMiddlesAreRight(t *testing.T) {
	d := dice(1752)
	for _, pair := range middles(&d) {
		if !ofMiddle(pair[0]) || !ofMiddle(pair[1]) {
			t.Fatalf("%s, %s: a number is very great or very small", show(pair[0]), show(pair[1]))
		}
	}
}

// TestP17_4Nearest: what is told of numbers of the middle nearly stands upright; where nothing is told r is flat.
func TestP17_4Nearest(t *testing.T) {
	d := dice(1753)
	count := map[api.Errno]int{}
	for _, pair := range middles(&d) {
		a, b := pair[0], pair[1]
		x, e := solve.Least(a, b)
		count[e]++
		if e == api.OK && !isNearest(a, x, b) {
			t.Errorf("Least of %s and %s: %s does not stand upright", show(a), show(b), show(x))
		}
		if e != wantsLeast(t, a, b) || e != api.OK && e != api.ErrRank {
			t.Errorf("Least of %s and %s: %s, %v", show(a), show(b), show(x), e)
		}
	}
	if count[api.OK] < 2000 || count[api.ErrRank] < 200 {
		t.Errorf("which errors: %v", count)
	}
}

// isCertified tells what the certifying layer says of what isNearest reckons here.
func isCertified(t *testing.T, a, x, b api.Matrix) bool {
	t.Helper()
	tilt, e := certify.Gradient(a, x, b)
	whole, f := certify.Square(a)
	right, g := certify.Square(x)
	side, h := certify.Square(b)
	product, _ := dyadic.Mul(whole, right)
	both, _ := dyadic.Add(product, side)
	bound, _ := dyadic.Mul(whole, both)
	near, i := certify.Within(tilt, bound, 35)
	if e != api.OK || f != api.OK || g != api.OK || h != api.OK || i != api.OK {
		t.Errorf("%s, %s, %s: %v, %v, %v, %v, %v", show(a), show(x), show(b), e, f, g, h, i)
	}
	return near
}

// TestP6Verdicts: the certifying layer says of x, and of what is further off, what is reckoned here.
func TestP6Verdicts(t *testing.T) {
	d := dice(1754)
	count := map[bool]int{}
	for n, pair := range middles(&d) {
		a, b := pair[0], pair[1]
		x, e := solve.Least(a, b)
		if n%5 != 0 || e != api.OK {
			continue
		}
		if !isCertified(t, a, x, b) {
			t.Errorf("%s, %s, %s is not certified", show(a), show(x), show(b))
		}
		for _, by := range []api.Bits{1 << 10, 1 << 18, 1 << 30} {
			off := each(x, func(b api.Bits) api.Bits { return b + by })
			want := isNearest(a, off, b)
			count[want]++
			if got := isCertified(t, a, off, b); got != want {
				t.Errorf("%s, %s, %s: %v; wanted %v", show(a), show(off), show(b), got, want)
			}
		}
	}
	if count[true] < 200 || count[false] < 200 {
		t.Errorf("which are nearest: %v", count)
	}
}

// wantsBack looks after what Least tells of a and a times x, whole numbers, and tells which error there is.
func wantsBack(t *testing.T, a, x api.Matrix) api.Errno {
	t.Helper()
	b := of(a.Rows, x.Cols)
	for i := range a.Rows {
		for c := range x.Cols {
			s := 0.0
			for k := range a.Cols {
				s += float(*at(a, i, k)) * float(*at(x, k, c))
			}
			b.Data = append(b.Data, says(s))
		}
	}
	got, e := solve.Least(a, b)
	if e == api.OK && !isBut(got, x) {
		t.Errorf("Least of %s and %s: %s; wanted %s", show(a), show(b), show(got), show(x))
	}
	if rank, _ := certify.Rank(a); rank < a.Cols && e != api.ErrRank || e != api.OK && e != api.ErrRank {
		t.Errorf("Least of %s, of rank %d, and %s: %s, %v", show(a), rank, show(b), show(got), e)
	}
	return e
}

// TestP17_5Back: of a and a times x, whole and small, x is told, where a is not flat.
func TestP17_5Back(t *testing.T) {
	d := dice(1755)
	count := map[api.Errno]int{}
	for _, s := range tall() {
		for _, most := range []int{1, 4, 9, 100} {
			for range 40 {
				pick := d.small(most)
				count[wantsBack(t, picked(s[0], s[1], pick), picked(s[1], d.below(7), pick))]++
				count[wantsBack(t, picked(s[0], s[1], d.sparse(pick)), picked(s[1], 1, pick))]++
			}
		}
	}
	if count[api.OK] < 3000 || count[api.ErrRank] < 300 {
		t.Errorf("which errors: %v", count)
	}
}

// TestP17_5Hard: such as nearly hang on one another: of all that were picked those whose last column is nearest to the others, and those that grow in a triangle.
func TestP17_5Hard(t *testing.T) {
	d := dice(1756)
	for n := 2; n <= api.MaxDim; n++ {
		for range 200 {
			a := picked(n, n, d.small(4))
			for i := range n { // the last column is the sum of the others, but for one number
				s := 0.0
				for k := range n - 1 {
					s += float(*at(a, i, k))
				}
				*at(a, i, n-1) = says(s)
			}
			*at(a, d.below(n), n-1) = api.One
			wantsBack(t, a, picked(n, 2, d.small(9)))
		}
		for _, beside := range []api.Bits{minus(api.One), minus(two), minus(three), minus(four)} {
			a := filled(n, n, api.Zero)
			for i := range n {
				for k := i; k < n; k++ {
					*at(a, i, k) = beside
				}
				*at(a, i, i) = api.One
			}
			wantsBack(t, a, picked(n, 6, d.small(9)))
			wantsBack(t, turned(a), picked(n, 6, d.small(9)))
		}
	}
}
