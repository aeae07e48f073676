package hess_test

import (
	"math/big"
	"testing"

	"dioptra/api"
	"dioptra/certify"
	"dioptra/hess"
)

// step: numbers stand in steps of 2^-step, products of so many of them in steps of 2^-step times as many.
const step = 1074

// grid is a matrix of exact numbers, row by row.
type grid [][]*big.Int

// gridOf is m's numbers, each in steps of 2^-1074.
func gridOf(m api.Matrix) grid {
	g := make(grid, m.Rows)
	for i := range g {
		for k := range m.Cols {
			g[i] = append(g[i], units(*at(m, i, k)))
		}
	}
	return g
}

// times is the product of two grids of as many rows and columns.
func (g grid) times(o grid) grid {
	p := make(grid, len(g))
	for i := range g {
		for k := range g {
			n := new(big.Int)
			for j := range g {
				n.Add(n, new(big.Int).Mul(g[i][j], o[j][k]))
			}
			p[i] = append(p[i], n)
		}
	}
	return p
}

// finer is the grid in steps of so many more powers of 2^-1074.
func (g grid) finer(powers uint) grid {
	f := make(grid, len(g))
	for i := range g {
		for _, n := range g[i] {
			f[i] = append(f[i], new(big.Int).Lsh(n, powers*step))
		}
	}
	return f
}

// less is the difference of two grids in the same steps.
func (g grid) less(o grid) grid {
	l := make(grid, len(g))
	for i := range g {
		for k, n := range g[i] {
			l[i] = append(l[i], new(big.Int).Sub(n, o[i][k]))
		}
	}
	return l
}

// square is the sum of squares.
func (g grid) square() *big.Int {
	total := new(big.Int)
	for _, row := range g {
		for _, n := range row {
			total.Add(total, new(big.Int).Mul(n, n))
		}
	}
	return total
}

// small tells whether x is at most a part in 2^k of y.
func small(x, y *big.Int, k uint) bool {
	return new(big.Int).Lsh(x, k).Cmp(y) <= 0
}

// isProduct tells whether m less q times s times z turned has a square of at most a part in 2^k of m's.
func isProduct(m, q, s, z api.Matrix, k uint) bool {
	whole := gridOf(m).finer(2)
	return small(whole.less(gridOf(q).times(gridOf(s)).times(gridOf(turned(z)))).square(), whole.square(), k)
}

// standsUpright tells whether q's columns do, but for a square of 2^-k.
func standsUpright(q api.Matrix, k uint) bool {
	one := units(api.One)
	one.Mul(one, one)
	return small(gridOf(turned(q)).times(gridOf(q)).less(gridOf(eye(q.Cols)).finer(1)).square(), one.Mul(one, one), k)
}

// TestExactIsRight guards the tests of what follows: one bit too many is seen, and one too few is let be.
func TestExactIsRight(t *testing.T) {
	turn := of(2, 2, api.Zero, api.One, minus(api.One), api.Zero)
	s := wholes(2, 1, 2, 3, 4)
	for _, c := range []struct {
		m, q, s, z api.Matrix
		want       bool
	}{
		{s, eye(2), s, eye(2), true},
		{wholes(2, 3, 4, -1, -2), turn, s, eye(2), true},
		{wholes(2, 2, -1, 4, -3), eye(2), s, turn, true}, // z's columns as rows
		{wholes(2, -2, 1, -4, 3), eye(2), s, turn, false},
		{wholes(2, 4, -3, -2, 1), turn, s, turn, true},
		{eye(1), eye(1), of(1, 1, api.One+1<<14), eye(1), true}, // off by 2^-38
		{eye(1), eye(1), of(1, 1, api.One+1<<14+1), eye(1), false},
		{of(1, 1, power(-100)), eye(1), of(1, 1, power(-100)+1<<14), eye(1), true}, // sizes say nothing
		{of(1, 1, power(-100)), eye(1), of(1, 1, power(-100)+1<<14+1), eye(1), false},
		{of(1, 1, api.Zero), eye(1), of(1, 1, api.NegZero), eye(1), true},
		{of(1, 1, api.Zero), eye(1), of(1, 1, least), eye(1), false}, // of nothing no part is small
		{of(0, 0), of(0, 0), of(0, 0), of(0, 0), true},
	} {
		if got := isProduct(c.m, c.q, c.s, c.z, 76); got != c.want {
			t.Errorf("%s is %s times %s times %s turned: %v", show(c.m), show(c.q), show(c.s), show(c.z), got)
		}
	}
	for _, c := range []struct {
		q    api.Matrix
		want bool
	}{
		{of(0, 0), true},
		{eye(6), true},
		{turn, true},
		{wholes(2, 1, 0, 0, 0), false},
		{wholes(2, 1, 1, 0, 1), false},
		{of(1, 1, api.One-1<<14), true}, // off by almost 2^-38
		{of(1, 1, api.One+1<<13), false},
		{of(2, 2, api.One, power(-39), api.Zero, api.One), true}, // twice 2^-78 is off
		{of(2, 2, api.One, power(-38), api.Zero, api.One), false},
	} {
		if got := standsUpright(c.q, 76); got != c.want {
			t.Errorf("%s stands upright: %v", show(c.q), got)
		}
	}
}

// middles are pairs of matrices of one size, whose numbers are neither very great nor very small: of several sorts, of columns of unlike sorts, with multiples, with noughts in columns and on the diagonal, such as are 0 below their diagonal already, such as stand upright, and one matrix twice.
func middles(d *dice) [][2]api.Matrix {
	var list [][2]api.Matrix
	sorts := d.middle()
	for n := range api.MaxDim + 1 {
		some := func() api.Matrix { return picked(n, n, sorts[d.below(len(sorts))]) }
		for _, pick := range sorts {
			a, b := picked(n, n, pick), picked(n, n, pick)
			list = append(list, [2]api.Matrix{a, b}, [2]api.Matrix{a, a}, [2]api.Matrix{a, some()}, [2]api.Matrix{some(), d.upper(b)}, [2]api.Matrix{d.upper(a), b}, [2]api.Matrix{a, eye(n)}, [2]api.Matrix{eye(n), b}, [2]api.Matrix{some(), d.noughtDiagonal(d.upper(b), d.below(1<<n))})
			if n == 0 {
				continue
			}
			list = append(list, [2]api.Matrix{a, d.noughtColumn(b, d.below(n))}, [2]api.Matrix{d.noughtColumn(a, d.below(n)), b})
			list = append(list, [2]api.Matrix{d.mixed(n), d.mixed(n)}, [2]api.Matrix{turned(d.mixed(n)), d.mixed(n)}, [2]api.Matrix{d.mixed(n), turned(d.mixed(n))})
		}
		for _, pick := range []func() api.Bits{d.small(9), d.near(-3, 6), d.near(-30, 60), d.near(-90, 180)} { // times the multiples' numbers they still are of the middle
			list = append(list, [2]api.Matrix{d.multiples(n, pick), some()}, [2]api.Matrix{some(), d.multiples(n, pick)}, [2]api.Matrix{d.multiples(n, pick), d.multiples(n, pick)})
		}
	}
	return list
}

// mixed is a matrix whose columns are of unlike sorts.
func (d *dice) mixed(n int) api.Matrix {
	sorts := d.middle()
	m := filled(n, n, api.Zero)
	for k := range n {
		pick := sorts[d.below(len(sorts))]
		for i := range n {
			*at(m, i, k) = pick()
		}
	}
	return m
}

// TestMiddlesAreRight guards the tests of what follows.
func TestMiddlesAreRight(t *testing.T) {
	d := dice(1850)
	for _, pair := range middles(&d) {
		if !ofMiddle(pair[0]) || !ofMiddle(pair[1]) {
			t.Fatalf("%s, %s: a number is very great or very small", show(pair[0]), show(pair[1]))
		}
	}
}

// wantsZeroBelow holds P18.2: Zero itself, not the nought below 0.
func wantsZeroBelow(t *testing.T, a, b api.Matrix, f hess.Four) {
	t.Helper()
	for i := range f.H.Rows {
		for j := range i {
			if *at(f.T, i, j) != api.Zero || i > j+1 && *at(f.H, i, j) != api.Zero {
				t.Errorf("Bring of %s\nand %s:%s%x, %x at %d, %d", show(a), show(b), showFour(f), *at(f.H, i, j), *at(f.T, i, j), i, j)
			}
		}
	}
}

// TestP18_2ZeroBelow: of whatever is brought, of any sizes of numbers.
func TestP18_2ZeroBelow(t *testing.T) {
	d := dice(1851)
	told, below := 0, [2]int{}
	for n := range api.MaxDim + 1 {
		for _, pick := range append(d.sorts(), d.sparse(d.small(1)), d.sparse(d.small(2))) {
			for range 4 {
				a, b := picked(n, n, pick), picked(n, n, pick)
				f, e := hess.Bring(a, b)
				if e != api.OK {
					continue
				}
				told++
				wantsZeroBelow(t, a, b, f)
				_, seen := gosBring(a, b)
				below[0] += seen.below[0]
				below[1] += seen.below[1]
			}
		}
	}
	if told < 400 || below[0] < 50 || below[1] < 50 {
		t.Errorf("%d were told, of which %v noughts would have the sign 1", told, below)
	}
}

// TestP18_2to4: of numbers of the middle there are four, which are Zero below (P18.2), whose products are a and b (P18.3), and of which q and z stand upright (P18.4).
func TestP18_2to4(t *testing.T) {
	d := dice(1852)
	for _, pair := range middles(&d) {
		a, b := pair[0], pair[1]
		f, e := hess.Bring(a, b)
		if e != api.OK {
			t.Errorf("Bring of %s\nand %s: %v", show(a), show(b), e)
			continue
		}
		wantsZeroBelow(t, a, b, f)
		if !isProduct(a, f.Q, f.H, f.Z, 76) || !isProduct(b, f.Q, f.T, f.Z, 76) {
			t.Errorf("Bring of %s\nand %s:%smultiplied they are others", show(a), show(b), showFour(f))
		}
		if !standsUpright(f.Q, 76) || !standsUpright(f.Z, 76) {
			t.Errorf("Bring of %s\nand %s:%sq or z does not stand upright", show(a), show(b), showFour(f))
		}
	}
}

// TestP18_4Rows: q and z have as many rows as columns, so their rows stand upright as well.
func TestP18_4Rows(t *testing.T) {
	d := dice(1853)
	for i, pair := range middles(&d) {
		if i%4 != 0 {
			continue
		}
		f, _ := hess.Bring(pair[0], pair[1])
		if !standsUpright(turned(f.Q), 76) || !standsUpright(turned(f.Z), 76) {
			t.Errorf("Bring of %s\nand %s:%sthe rows of q or z do not stand upright", show(pair[0]), show(pair[1]), showFour(f))
		}
	}
}

// TestP6Verdicts: the certifying layer says of q and z what is reckoned here.
func TestP6Verdicts(t *testing.T) {
	d := dice(1854)
	one, _ := certify.Square(eye(1))
	count := map[bool]int{}
	for i, pair := range middles(&d) {
		f, _ := hess.Bring(pair[0], pair[1])
		if i%4 != 0 {
			continue
		}
		for _, m := range []api.Matrix{f.Q, f.Z} {
			for _, by := range []api.Bits{0, 1 << 10, 1 << 13, 1 << 30} {
				off := clone(m)
				for j := range off.Data {
					if j%3 == 0 && off.Data[j]&^api.NegZero != 0 {
						off.Data[j] += by
					}
				}
				want := standsUpright(off, 76)
				count[want]++
				tilt, e := certify.Orthogonal(off)
				if got, g := certify.Within(tilt, one, 38); got != want || e != api.OK || g != api.OK || by == 0 && !got {
					t.Errorf("%s: %v, %v, %v; wanted %v", show(off), got, e, g, want)
				}
			}
		}
	}
	if count[true] < 200 || count[false] < 200 {
		t.Errorf("which stand upright: %v", count)
	}
}
