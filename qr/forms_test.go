package qr_test

import (
	"testing"

	"dioptra/api"
	"dioptra/certify"
	"dioptra/matrix"
	"dioptra/qr"
)

// TestP14_1Form: sizes out of their range, Data too short or too long, whatever number stands there: ErrForm before ErrFinite and ErrRange.
func TestP14_1Form(t *testing.T) {
	for _, b := range []api.Bits{api.One, api.Zero, api.Inf, api.NaN, greatest} {
		for _, m := range wrong(b) {
			wantsNone(t, m, api.ErrForm)
		}
	}
	for _, m := range []api.Matrix{of(-1, 1), of(1, -1), of(-1, -1, api.One), of(7, 1, filled(7, 1, api.One).Data...), of(1, 7, filled(7, 1, api.One).Data...), of(2, 2, filled(3, 1, api.One).Data...), of(2, 2, filled(5, 1, api.One).Data...)} {
		wantsNone(t, m, api.ErrForm)
	}
}

// TestP14_1Finite: one number that is not finite, at each place, among ordinary numbers, and among such as are too great: ErrFinite before ErrRange.
func TestP14_1Finite(t *testing.T) {
	d := dice(1420)
	for _, s := range sizes() {
		for place := range s[0] * s[1] {
			for _, none := range notFinite() {
				for _, pick := range []func() api.Bits{d.near(-3, 6), d.out(noughts()), d.out([]api.Bits{greatest}), d.out(all())} {
					m := picked(s[0], s[1], pick)
					m.Data[place] = none
					wantsNone(t, m, api.ErrFinite)
				}
			}
		}
	}
}

// TestP14_1AsCheckSays: the errors of what may not be asked are those of the certifying layer.
func TestP14_1AsCheckSays(t *testing.T) {
	d := dice(1421)
	list := append(wrong(api.One), wrong(api.NegInf)...)
	for _, s := range sizes() {
		list = append(list, picked(s[0], s[1], d.out(all())), picked(s[0], s[1], d.any()))
	}
	for _, m := range list {
		if e := certify.Check(m); e != api.OK {
			wantsNone(t, m, e)
		}
	}
}

// TestP14_1NoMirrorFirst: a mirror of the first column that can't be made, whatever stands beside it.
func TestP14_1NoMirrorFirst(t *testing.T) {
	d := dice(1422)
	for rows := 2; rows <= api.MaxDim; rows++ {
		for cols := 1; cols <= api.MaxDim; cols++ {
			m := picked(rows, cols, d.near(-3, 6))
			*at(m, 0, 0), *at(m, rows-1, 0) = greatest, greatest // the norm is not finite
			wantsNone(t, m, api.ErrRange)
			*at(m, 0, 0) = power(1023) // the norm is, but not the first number less it
			*at(m, rows-1, 0) = power(1022)
			wantsNone(t, m, api.ErrRange)
			*at(m, 0, 0), *at(m, rows-1, 0) = greatest, least
			for i := 1; i < rows-1; i++ {
				*at(m, i, 0) = api.NegZero
			}
			wantsNone(t, m, api.ErrRange)
		}
	}
}

// TestP14_1NoMirrorLater: a mirror of a later column that can't be made, where all before it can; in the last row there is none to be made.
func TestP14_1NoMirrorLater(t *testing.T) {
	for rows := 2; rows <= api.MaxDim; rows++ {
		for j := 1; j < rows; j++ {
			for cols := j + 1; cols <= api.MaxDim; cols++ {
				for _, second := range []api.Bits{greatest, minus(greatest), power(1022), least} {
					m := filled(rows, cols, api.Zero)
					for k := range min(rows, cols) {
						*at(m, k, k) = api.One
					}
					*at(m, j, j) = greatest
					if j == rows-1 {
						wantsFactors(t, m, eye(rows), m)
						continue
					}
					*at(m, rows-1, j) = second
					wantsNone(t, m, api.ErrRange)
				}
			}
		}
	}
}

// TestP14_1NotFiniteLater: a column that was finite, and is not when a mirror before it is done: its own mirror can't be made, and the error is not ErrFinite.
func TestP14_1NotFiniteLater(t *testing.T) {
	for rows := 3; rows <= api.MaxDim; rows++ {
		for cols := 2; cols <= api.MaxDim; cols++ {
			for later := 1; later < cols; later++ {
				m := filled(rows, cols, api.One)
				for i := range rows {
					*at(m, i, later) = greatest
				}
				wantsNone(t, m, api.ErrRange)
			}
		}
	}
}

// TestP14_1FactorNotFinite: every mirror can be made, and r has a number that is not finite, right of the columns that are mirrored.
func TestP14_1FactorNotFinite(t *testing.T) {
	for _, m := range []api.Matrix{
		of(2, 2, api.One, greatest, api.One, greatest),
		of(2, 2, three, greatest, four, greatest),
		of(2, 3, three, api.One, greatest, four, api.One, greatest),
		of(2, 2, three, minus(greatest), four, minus(greatest)),
		of(3, 3, api.One, api.Zero, greatest, api.Zero, api.One, greatest, api.Zero, api.One, greatest), // the second mirror makes it
	} {
		if _, _, made, ok := gosFactors(m); made != m.Rows-1 || ok {
			t.Errorf("%s: %d mirrors, %v", show(m), made, ok)
		}
		wantsNone(t, m, api.ErrRange)
	}
	fits := of(2, 2, three, power(1022), four, power(1022))
	if _, r, e := qr.Factor(fits); e != api.OK || !isFinite(float(*at(r, 0, 1))) {
		t.Errorf("%s: r %s, %v", show(fits), show(r), e)
	}
}

// TestP14_1GreatestFits: the greatest number, where nothing is to be mirrored.
func TestP14_1GreatestFits(t *testing.T) {
	for rows := range api.MaxDim + 1 {
		for cols := range api.MaxDim + 1 {
			m := filled(rows, cols, greatest)
			for i := range rows {
				for k := range min(i, cols) {
					*at(m, i, k) = api.NegZero
				}
			}
			r := each(m, func(b api.Bits) api.Bits {
				if b == api.NegZero {
					return api.Zero
				}
				return b
			})
			wantsFactors(t, m, eye(rows), r)
		}
	}
}

// TestP14_1ThinSizes: more rows than columns, fewer, and as many.
func TestP14_1ThinSizes(t *testing.T) {
	d := dice(1423)
	for _, c := range []struct{ rows, cols, n int }{{5, 3, 3}, {3, 5, 3}, {4, 4, 4}, {6, 6, 6}, {6, 1, 1}, {1, 6, 1}, {1, 1, 1}, {0, 0, 0}, {6, 0, 0}, {0, 6, 0}} {
		a := picked(c.rows, c.cols, d.near(-3, 6))
		q, r, e := qr.Factor(a)
		if matrix.Check(q) != api.OK || matrix.Check(r) != api.OK || q.Rows != c.rows || q.Cols != c.rows || r.Rows != c.rows || r.Cols != c.cols || e != api.OK {
			t.Errorf("Factor of %s: %s, %s, %v", show(a), show(q), show(r), e)
		}
		q, r, e = qr.Thin(a)
		if matrix.Check(q) != api.OK || matrix.Check(r) != api.OK || q.Rows != c.rows || q.Cols != c.n || r.Rows != c.n || r.Cols != c.cols || e != api.OK {
			t.Errorf("Thin of %s: %s, %s, %v", show(a), show(q), show(r), e)
		}
	}
}

func wantsNotTurned(t *testing.T, q, b api.Matrix, want api.Errno) {
	t.Helper()
	if m, e := qr.Turned(q, b); !empty(m) || e != want {
		t.Errorf("Turned(%s, %s): %s, %v; wanted %v", show(q), show(b), show(m), e, want)
	}
}

// TestP14_2Shape: all sizes with all others: they go together where both have as many rows.
func TestP14_2Shape(t *testing.T) {
	for _, one := range sizes() {
		for _, other := range sizes() {
			q, b := filled(one[0], one[1], api.One), filled(other[0], other[1], api.Inf)
			if one[0] != other[0] {
				wantsNotTurned(t, q, b, api.ErrShape)
			} else if m, e := qr.Turned(q, b); m.Rows != one[1] || m.Cols != other[1] || matrix.Check(m) != api.OK || e != api.OK {
				t.Errorf("Turned of sizes %v and %v: %s, %v", one, other, show(m), e)
			}
		}
	}
}

// TestP14_2Form: what is not right, on either side, and on both: ErrForm before ErrShape.
func TestP14_2Form(t *testing.T) {
	for _, n := range []api.Bits{api.One, api.NaN} {
		for i, m := range wrong(n) {
			for _, s := range [][2]int{{0, 0}, {1, 1}, {2, 3}, {m.Rows, 1}, {m.Cols, 1}, {6, 6}} {
				if s[0] < 0 || s[0] > api.MaxDim {
					continue
				}
				right := filled(s[0], s[1], api.One)
				wantsNotTurned(t, m, right, api.ErrForm)
				wantsNotTurned(t, right, m, api.ErrForm)
			}
			wantsNotTurned(t, m, m, api.ErrForm)
			wantsNotTurned(t, m, wrong(n)[(i+7)%len(wrong(n))], api.ErrForm)
		}
	}
}
