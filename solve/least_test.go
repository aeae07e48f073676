package solve_test

import (
	"testing"

	"dioptra/api"
	"dioptra/matrix"
	"dioptra/qr"
	"dioptra/solve"
)

// gosSide is q turned, times b, by the machine's own numbers, of any kind. The conversions keep it from rounding once for two operations.
func gosSide(q, b api.Matrix) api.Matrix {
	left, right := tableOf(q), tableOf(b)
	m := of(q.Cols, b.Cols)
	for k := range q.Cols {
		for c := range b.Cols {
			s := 0.0
			for i := range q.Rows {
				s = float64(s + float64(left[i][k]*right[i][c]))
			}
			m.Data = append(m.Data, says(s))
		}
	}
	return m
}

// gosLeast is what the thin factors and the machine's own numbers say of finite matrices that go together.
func gosLeast(a, b api.Matrix) (api.Matrix, api.Errno) {
	q, r, e := qr.Thin(a)
	if e != api.OK {
		return api.Matrix{}, e
	}
	if gosFlat(r) {
		return api.Matrix{}, api.ErrRank
	}
	side := gosSide(q, b)
	if !tableOf(side).finite() {
		return api.Matrix{}, api.ErrFinite // Upper's error
	}
	x := gosSolved(upper, r, side)
	if !x.finite() {
		return api.Matrix{}, api.ErrRange
	}
	return x.matrix(b.Cols), api.OK
}

// wantsLeast holds Least of matrices that go together against the machine's own numbers, and tells which error there is.
func wantsLeast(t *testing.T, a, b api.Matrix) api.Errno {
	t.Helper()
	x, e := gosLeast(a, b)
	if e != api.OK {
		nears.fails(t, a, b, e)
	} else {
		nears.wants(t, a, b, x)
	}
	return e
}

// tall are all sizes that have no more columns than rows.
func tall() [][2]int {
	var list [][2]int
	for _, s := range sizes() {
		if s[1] <= s[0] {
			list = append(list, s)
		}
	}
	return list
}

// TestP17_2GosOwn goes over all sizes of both matrices that go together with numbers of all sorts.
func TestP17_2GosOwn(t *testing.T) {
	d := dice(1740)
	count := map[api.Errno]int{}
	for _, s := range tall() {
		for n := range api.MaxDim + 1 {
			for _, pick := range d.sorts() {
				count[wantsLeast(t, picked(s[0], s[1], pick), picked(s[0], n, pick))]++
			}
			count[wantsLeast(t, picked(s[0], s[1], d.near(-3, 6)), picked(s[0], n, d.near(1022, 2)))]++
		}
	}
	for _, e := range []api.Errno{api.OK, api.ErrRank, api.ErrRange, api.ErrFinite} {
		if count[e] < 30 {
			t.Errorf("which errors: %v", count)
		}
	}
}

// TestP17_2Mixed: a matrix of one sort, a right side of another one.
func TestP17_2Mixed(t *testing.T) {
	d := dice(1741)
	list := tall()
	for _, one := range d.sorts() {
		for _, other := range d.sorts() {
			s := list[d.below(len(list))]
			wantsLeast(t, picked(s[0], s[1], one), picked(s[0], 1+d.below(api.MaxDim), other))
		}
	}
}

// TestP17_2Greatest: just MaxDim rows and MaxDim columns.
func TestP17_2Greatest(t *testing.T) {
	d := dice(1742)
	for _, pick := range d.middle() {
		wantsLeast(t, picked(api.MaxDim, api.MaxDim, pick), picked(api.MaxDim, api.MaxDim, pick))
		wantsLeast(t, picked(api.MaxDim, 1, pick), picked(api.MaxDim, api.MaxDim, pick))
	}
}

func TestP17_2ByHand(t *testing.T) {
	nears.wants(t, wholes(1, 1, -2), wholes(1, 1, 6), wholes(1, 1, -3))
	nears.wants(t, wholes(2, 2, 2, 1, 0, 4), wholes(2, 1, 4, 8), wholes(2, 1, 1, 2)) // a triangle is its own r
	nears.wants(t, wholes(2, 1, 0, 1), wholes(2, 2, 9, -3, 5, 7), wholes(1, 2, 5, 7))
	nears.wants(t, wholes(3, 2, 1, 0, 0, 1, 0, 0), wholes(3, 1, 3, 4, 5), wholes(2, 1, 3, 4))
	x, e := solve.Least(wholes(2, 1, 1, 1), wholes(2, 1, 1, 3))
	if e != api.OK || len(x.Data) != 1 || x.Data[0]-(two-4) > 8 {
		t.Errorf("of 1, 1 and 1, 3: %s, %v; wanted 2", show(x), e)
	}
}

// TestP17_2Empty: no columns, then no numbers are told, but as many columns as b has; no rows likewise; b of no columns.
func TestP17_2Empty(t *testing.T) {
	d := dice(1743)
	for rows := range api.MaxDim + 1 {
		for n := range api.MaxDim + 1 {
			for _, b := range []api.Matrix{picked(rows, n, d.near(-3, 6)), filled(rows, n, greatest)} {
				nears.wants(t, of(rows, 0), b, of(0, n))
			}
		}
		for cols := range rows + 1 {
			nears.wants(t, picked(rows, cols, d.near(-3, 6)), of(rows, 0), of(cols, 0))
		}
	}
}

// TestP17_2Shape: all sizes with all others: more columns than rows, as many rows as b or not; before the factors' ErrRange, and before ErrRank.
func TestP17_2Shape(t *testing.T) {
	for _, one := range sizes() {
		for _, other := range sizes() {
			for _, n := range []api.Bits{api.One, api.Zero, greatest} {
				a, b := filled(one[0], one[1], n), filled(other[0], other[1], greatest)
				if one[1] > one[0] || one[0] != other[0] {
					nears.fails(t, a, b, api.ErrShape)
				} else {
					wantsLeast(t, a, b)
				}
			}
		}
	}
}

// TestP17_2Sizes: as many rows as a has columns, and as many columns as b.
func TestP17_2Sizes(t *testing.T) {
	d := dice(1744)
	for _, s := range tall() {
		for n := range api.MaxDim + 1 {
			a, b := picked(s[0], s[1], d.near(-3, 6)), picked(s[0], n, d.near(-3, 6))
			if x, e := solve.Least(a, b); x.Rows != s[1] || x.Cols != n || matrix.Check(x) != api.OK || e != api.OK {
				t.Errorf("Least of %s and %s: %s, %v", show(a), show(b), show(x), e)
			}
		}
	}
}

// TestP17_2Rank: columns that hang on one another, a column of noughts of either sign, at each place, whatever b is.
func TestP17_2Rank(t *testing.T) {
	d := dice(1745)
	for _, s := range tall() {
		for k := range s[1] {
			for _, b := range []api.Matrix{of(s[0], 0), filled(s[0], 2, api.Zero), filled(s[0], 1, greatest), picked(s[0], 3, d.near(-3, 6))} {
				a := d.noughtColumn(picked(s[0], s[1], d.near(-3, 6)), k)
				nears.fails(t, a, b, api.ErrRank)
				nears.fails(t, filled(s[0], s[1], d.out(noughts())()), b, api.ErrRank)
				if s[1] < 2 {
					continue
				}
				a = picked(s[0], s[1], d.near(-3, 6))
				other := (k + 1 + d.below(s[1]-1)) % s[1]
				by := d.out([]api.Bits{api.One, minus(api.One), three, 0x3fd5555555555555})()
				for i := range s[0] {
					*at(a, i, k) = says(float(*at(a, i, other)) * float(by))
				}
				nears.fails(t, a, b, api.ErrRank)
			}
		}
	}
	nears.fails(t, wholes(2, 2, 1, 2, 2, 4), wholes(2, 1, 1, 1), api.ErrRank)
	nears.fails(t, wholes(3, 3, 1, 2, 3, 4, 5, 6, 7, 8, 9), wholes(3, 1, 1, 1, 1), api.ErrRank)
}

// TestP17_2Multiples: columns that are multiples of one another, of all sorts: mostly they are told flat, but for roundings.
func TestP17_2Multiples(t *testing.T) {
	d := dice(1746)
	for _, s := range tall() {
		for _, pick := range append(d.middle(), d.tiny(), d.near(-1022, 4)) {
			wantsLeast(t, d.multiples(s[0], s[1], pick), picked(s[0], 2, pick))
		}
	}
}

// TestP17_2FlatByLittle: r flat by just the bound, and not flat by the next number above it, at each place of the diagonal: where below it all is 0, r is a's first rows, and x what Upper says of b's.
func TestP17_2FlatByLittle(t *testing.T) {
	d := dice(1747)
	for _, s := range tall() {
		for i := range s[1] {
			for j := range s[1] {
				if i == j {
					continue
				}
				a := filled(s[0], s[1], api.Zero)
				for k := range s[1] {
					*at(a, k, k) = api.One ^ d.out(noughts())()
				}
				*at(a, min(i, j), max(i, j)) = three
				*at(a, i, i) = power(3)
				b := picked(s[0], 1+d.below(6), d.near(-3, 6))
				for _, sign := range noughts() {
					*at(a, j, j) = power(-37) ^ sign
					nears.fails(t, a, b, api.ErrRank)
					*at(a, j, j) = power(-37) + 1 ^ sign
					want, e := solve.Upper(corner(a, s[1], s[1]), corner(b, s[1], b.Cols))
					if e != api.OK {
						t.Errorf("Upper of %s: %v", show(a), e)
					}
					nears.wants(t, a, b, want)
				}
			}
		}
	}
}

// TestP17_2NoFactors: the thin factors' ErrRange, though r would be flat: before ErrRank.
func TestP17_2NoFactors(t *testing.T) {
	d := dice(1748)
	for _, s := range tall() {
		if s[0] < 2 {
			continue
		}
		for k := range s[1] {
			if k == s[0]-1 {
				continue // in the last row there is no mirror to be made
			}
			for _, b := range []api.Matrix{of(s[0], 0), filled(s[0], 1, greatest), picked(s[0], 2, d.near(-3, 6))} {
				a := filled(s[0], s[1], api.Zero)
				for j := range s[1] {
					*at(a, j, j) = api.One
				}
				*at(a, k, k), *at(a, s[0]-1, k) = greatest, greatest
				nears.fails(t, a, b, api.ErrRange)
				*at(a, (k+1)%s[1], (k+1)%s[1]) = api.Zero
				*at(a, k, k) = greatest
				nears.fails(t, a, b, api.ErrRange)
			}
		}
	}
	nears.fails(t, of(2, 2, api.One, greatest, api.One, greatest), wholes(2, 1, 1, 1), api.ErrRange) // a factor is not finite
}

// TestP17_2SideTooGreat: q turned, times b, is not finite: that is ErrFinite, as Upper says of it; of a flat r ErrRank comes first.
func TestP17_2SideTooGreat(t *testing.T) {
	for rows := 2; rows <= api.MaxDim; rows++ {
		for cols := 1; cols <= api.MaxDim; cols++ {
			for c := range cols {
				b := filled(rows, cols, three)
				for i := range rows {
					*at(b, i, c) = greatest
				}
				nears.fails(t, filled(rows, 1, api.One), b, api.ErrFinite)
				nears.fails(t, filled(rows, 2, api.One), b, api.ErrRank)
			}
		}
	}
}

// TestP17_2TooGreat: x is too great, in each column and row: Upper's ErrRange.
func TestP17_2TooGreat(t *testing.T) {
	for _, s := range tall() {
		for i := range s[1] {
			for cols := 1; cols <= api.MaxDim; cols++ {
				for c := range cols {
					a, b := filled(s[0], s[1], api.Zero), filled(s[0], cols, three)
					for k := range s[1] {
						*at(a, k, k) = minus(api.One)
					}
					*at(a, i, i), *at(b, i, c) = half, greatest
					nears.fails(t, a, b, api.ErrRange)
					*at(a, i, i), *at(b, i, c) = half, power(1022)
					if e := wantsLeast(t, a, b); e != api.OK {
						t.Errorf("Least of %s and %s: %v", show(a), show(b), e)
					}
				}
			}
		}
	}
}

// TestP1LeastByLayersBelow: what is told is what Thin, Mul of Turn and Upper give, one after another.
func TestP1LeastByLayersBelow(t *testing.T) {
	d := dice(1749)
	for _, s := range tall() {
		for _, pick := range d.sorts() {
			a, b := picked(s[0], s[1], pick), picked(s[0], 1+d.below(6), pick)
			q, r, e := qr.Thin(a)
			flat, _ := solve.Flat(r)
			if e == api.OK && flat {
				e = api.ErrRank
			}
			if e != api.OK {
				nears.fails(t, a, b, e)
				continue
			}
			rows, _ := matrix.Turn(q)
			side, _ := matrix.Mul(rows, b)
			if want, f := solve.Upper(r, side); f != api.OK {
				nears.fails(t, a, b, f)
			} else {
				nears.wants(t, a, b, want)
			}
		}
	}
}
