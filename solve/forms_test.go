package solve_test

import (
	"testing"

	"dioptra/api"
	"dioptra/certify"
	"dioptra/matrix"
)

// badNumbers are such as would be another error, if the matrix were right.
func badNumbers() []api.Bits {
	return []api.Bits{api.One, api.Zero, api.Inf, api.NegInf, api.NaN, greatest}
}

// justWrong are matrices that are only just not right: of -1 and of MaxDim + 1 rows or columns, Data too short or too long by one number.
func justWrong(b api.Bits) []api.Matrix {
	var list []api.Matrix
	for _, s := range [][3]int{{-1, 1, 0}, {1, -1, 0}, {-1, 0, 0}, {0, -1, 0}, {-1, -1, 1}, {7, 1, 7}, {1, 7, 7}, {7, 0, 0}, {0, 7, 0}, {7, 7, 49}, {2, 3, 5}, {2, 3, 7}, {3, 2, 5}, {3, 2, 7}, {6, 6, 35}, {6, 6, 37}, {1, 1, 0}, {1, 1, 2}, {0, 0, 1}, {0, 6, 1}, {6, 0, 1}} {
		list = append(list, of(s[0], s[1], filled(s[2], 1, b).Data...))
	}
	return list
}

// partners are right matrices that are to stand beside others: such as go together with them, such as don't, and such as are not finite.
func partners() []api.Matrix {
	return []api.Matrix{of(0, 0), of(0, 3), of(3, 0), eye(1), eye(2), eye(6), filled(2, 3, api.One), filled(3, 2, api.Zero), filled(6, 6, api.NegZero), filled(2, 2, greatest), filled(1, 1, api.Inf), filled(2, 2, api.NaN), filled(3, 1, api.NegInf)}
}

// TestP17_1FormFirst: of the first matrix's sizes and length, whatever number stands there, and whatever b is: before ErrFinite, ErrShape, ErrRank and ErrRange.
func TestP17_1FormFirst(t *testing.T) {
	for _, s := range solvers() {
		for _, n := range badNumbers() {
			for _, m := range append(wrong(n), justWrong(n)...) {
				for _, b := range append(partners(), of(-1, 1), of(2, 2, api.Inf)) {
					s.fails(t, m, b, api.ErrForm)
				}
			}
		}
	}
}

// TestP17_1FormSecond: of b's, where the first matrix may be asked; where it is not finite, that comes first.
func TestP17_1FormSecond(t *testing.T) {
	for _, s := range solvers() {
		for _, n := range badNumbers() {
			for _, b := range append(wrong(n), justWrong(n)...) {
				for _, a := range partners() {
					want := api.ErrForm
					if e := certify.Check(a); e != api.OK {
						want = e
					}
					s.fails(t, a, b, want)
				}
			}
		}
	}
}

// TestP17_1FiniteFirst: one number of the first matrix that is not finite, at each place, the ones that are not asked too, whatever b is: before b's ErrForm, ErrShape, ErrRank and ErrRange.
func TestP17_1FiniteFirst(t *testing.T) {
	d := dice(1730)
	others := append(partners(), of(-1, 1), of(2, 2, api.Inf))
	for _, s := range solvers() {
		for _, size := range sizes() {
			for place := range size[0] * size[1] {
				for _, none := range notFinite() {
					for _, pick := range []func() api.Bits{d.near(-3, 6), d.out(noughts()), d.out(all())} {
						m := picked(size[0], size[1], pick)
						m.Data[place] = none
						s.fails(t, m, picked(size[0], 2, pick), api.ErrFinite)
						s.fails(t, m, d.of(others), api.ErrFinite)
					}
				}
			}
		}
	}
}

// TestP17_1FiniteSecond: one number of b that is not finite, at each place: before ErrShape, ErrRank and ErrRange.
func TestP17_1FiniteSecond(t *testing.T) {
	d := dice(1731)
	for _, s := range solvers() {
		for _, size := range sizes() {
			for place := range size[0] * size[1] {
				for _, none := range notFinite() {
					b := picked(size[0], size[1], d.near(-3, 6))
					b.Data[place] = none
					for _, a := range []api.Matrix{eye(size[0]), filled(size[0], size[0], api.NegZero), filled(size[0], 1+d.below(6), greatest), filled(1+d.below(6), 6, api.One)} {
						s.fails(t, a, b, api.ErrFinite)
					}
				}
			}
		}
	}
}

// TestP17_1AsCheckSays: the errors of what may not be asked are those of the certifying layer, the first matrix's first.
func TestP17_1AsCheckSays(t *testing.T) {
	d := dice(1732)
	list := append(justWrong(api.One), justWrong(api.NaN)...)
	for _, size := range sizes() {
		list = append(list, picked(size[0], size[1], d.out(all())), picked(size[0], size[1], d.near(-3, 6)), picked(size[0], size[1], d.sparse(d.out(notFinite()))))
	}
	for _, s := range solvers() {
		for _, a := range list {
			for _, b := range list {
				e := certify.Check(a)
				if e == api.OK {
					e = certify.Check(b)
				}
				if e != api.OK {
					s.fails(t, a, b, e)
				}
			}
		}
	}
}

// TestP17_1Shape: all sizes with all others: more rows than columns, fewer, and as many as b has not; before ErrRank and ErrRange.
func TestP17_1Shape(t *testing.T) {
	for _, s := range triangles() {
		for _, one := range sizes() {
			for _, other := range sizes() {
				for _, n := range []api.Bits{api.One, api.NegZero, greatest, least} {
					r, b := filled(one[0], one[1], n), filled(other[0], other[1], greatest)
					if one[0] != one[1] || one[0] != other[0] {
						s.fails(t, r, b, api.ErrShape)
					} else {
						wantsGos(t, s, r, b)
					}
				}
			}
		}
	}
}

// TestP17_1Sizes: as many rows as b, and columns.
func TestP17_1Sizes(t *testing.T) {
	d := dice(1733)
	for _, s := range triangles() {
		for _, size := range sizes() {
			r, b := d.sided(picked(size[0], size[0], d.near(-3, 6)), d.near(-3, 6)), picked(size[0], size[1], d.near(-3, 6))
			if x, e := s.ask(r, b); x.Rows != size[0] || x.Cols != size[1] || matrix.Check(x) != api.OK || e != api.OK {
				t.Errorf("%s of %s and %s: %s, %v", s.name, show(r), show(b), show(x), e)
			}
		}
	}
}

// TestP17_1Rank: a nought on the diagonal, of either sign, at each place; before ErrRange, and though b has no columns, or noughts alone.
func TestP17_1Rank(t *testing.T) {
	d := dice(1734)
	for _, s := range triangles() {
		for n := 1; n <= api.MaxDim; n++ {
			for j := range n {
				for _, nought := range noughts() {
					for _, pick := range []func() api.Bits{d.near(-3, 6), d.out([]api.Bits{greatest, least}), d.near(-1022, 2)} {
						r := picked(n, n, pick)
						*at(r, j, j) = nought
						for _, b := range []api.Matrix{of(n, 0), filled(n, 1, api.Zero), filled(n, 6, api.NegZero), picked(n, 3, pick), filled(n, 2, greatest)} {
							s.fails(t, r, b, api.ErrRank)
						}
						*at(r, j, j) = least ^ nought // the next to it are none
						wantsGos(t, s, r, picked(n, 2, pick))
					}
				}
			}
		}
	}
}

// TestP17_1TooGreat: one number of the answer is too great, in each column and row: in the row that is reckoned first, in those in between, in the last one.
func TestP17_1TooGreat(t *testing.T) {
	for _, s := range triangles() {
		for n := 1; n <= api.MaxDim; n++ {
			for cols := 1; cols <= api.MaxDim; cols++ {
				for c := range cols {
					for i := range n {
						for _, sign := range noughts() {
							r, b := eye(n), filled(n, cols, three)
							*at(b, i, c) = greatest ^ sign
							s.wants(t, r, b, b) // the greatest number fits
							*at(r, i, i) = minus(half)
							s.fails(t, r, b, api.ErrRange)
							*at(r, i, i) = api.One - 1 // by the next number below One it is too great already
							s.fails(t, r, b, api.ErrRange)
							*at(b, i, c) = greatest - 2 ^ sign
							wantsFits(t, s, r, b)
						}
					}
				}
			}
		}
	}
}

// wantsFits looks after an answer that is only just not too great.
func wantsFits(t *testing.T, s solver, r, b api.Matrix) {
	t.Helper()
	if e := wantsGos(t, s, r, b); e != api.OK {
		t.Errorf("%s of %s and %s: %v", s.name, show(r), show(b), e)
	}
}

// TestP17_1ProductTooGreat: the rows before are finite, their product with the triangle's number is not, or what it is taken from is not.
func TestP17_1ProductTooGreat(t *testing.T) {
	for _, s := range triangles() {
		for n := 2; n <= api.MaxDim; n++ {
			for i := range n {
				for k := range n {
					if i == k || (s.name == "Upper") != (k > i) {
						continue
					}
					for cols := 1; cols <= api.MaxDim; cols++ {
						r, b := eye(n), filled(n, cols, api.Zero)
						*at(r, i, k), *at(b, k, cols-1) = two, power(1023)
						s.fails(t, r, b, api.ErrRange)
						*at(r, i, k), *at(b, i, cols-1) = api.One, minus(greatest)
						s.fails(t, r, b, api.ErrRange)
						*at(b, i, cols-1) = greatest
						wantsFits(t, s, r, b)
						*at(r, i, k), *at(r, i, i) = two, greatest // no quotient makes it finite again
						s.fails(t, r, b, api.ErrRange)
					}
				}
			}
		}
	}
}

// TestP17_1NoNumber: a number of the answer that is no number by way of what was too great before it: a nought times it, it less as much, two products against one another.
func TestP17_1NoNumber(t *testing.T) {
	for _, s := range triangles() {
		for _, c := range []struct {
			r, b api.Matrix
			none int
		}{
			{of(2, 2, api.One, api.Zero, 0, half), of(2, 1, api.One, greatest), 0},
			{of(3, 3, api.One, 0, api.Zero, 0, api.One, api.NegZero, 0, 0, half), of(3, 1, three, three, greatest), 0},
			{of(3, 3, api.One, api.One, minus(api.One), 0, half, 0, 0, 0, half), of(3, 1, three, greatest, greatest), 0},
			{of(3, 3, api.One, two, minus(two), 0, api.One, 0, 0, 0, api.One), of(3, 1, three, greatest, greatest), 0}, // all before it is finite
			{of(3, 3, api.One, two, two, 0, api.One, 0, 0, 0, api.One), of(3, 2, three, three, three, greatest, three, minus(greatest)), 1},
		} {
			r, b := c.r, c.b
			if s.name == "Lower" {
				r, b = flipped(r, true), flipped(b, false)
			}
			x := gosSolved(s, r, b)
			if s.name == "Lower" {
				x[0], x[len(x)-1] = x[len(x)-1], x[0]
			}
			if f := x[0][c.none]; f == f {
				t.Errorf("%s of %s and %s: %v is a number", s.name, show(r), show(b), x)
			}
			s.fails(t, r, b, api.ErrRange)
		}
	}
}

// TestP17_1RankFirst: where there is a nought on the diagonal and an answer is too great, ErrRank is told, whichever row is reckoned first.
func TestP17_1RankFirst(t *testing.T) {
	for _, s := range triangles() {
		for n := 2; n <= api.MaxDim; n++ {
			for i := range n {
				for k := range n {
					if i != k {
						r, b := eye(n), filled(n, 2, greatest)
						*at(r, i, i), *at(r, k, k) = least, api.NegZero
						s.fails(t, r, b, api.ErrRank)
						*at(r, k, k) = api.One
						s.fails(t, r, b, api.ErrRange)
					}
				}
			}
		}
	}
}
