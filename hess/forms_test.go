package hess_test

import (
	"testing"

	"dioptra/api"
	"dioptra/certify"
	"dioptra/hess"
	"dioptra/qr"
)

// badNumbers are such as would be another error, if the matrix were right.
func badNumbers() []api.Bits {
	return []api.Bits{api.One, api.Zero, api.Inf, api.NegInf, api.NaN, greatest}
}

// partners are right matrices that are to stand beside others: square ones and such as are not, such as have no factors, and such as are not finite.
func partners() []api.Matrix {
	return []api.Matrix{of(0, 0), of(0, 3), of(3, 0), eye(1), eye(2), eye(6), filled(2, 3, api.One), filled(3, 2, api.Zero), filled(6, 6, api.NegZero), filled(2, 2, greatest), filled(1, 1, api.Inf), filled(2, 2, api.NaN), filled(3, 1, api.NegInf)}
}

// TestP18_1FormFirst: of a's sizes and length, whatever number stands there, and whatever b is: before ErrFinite, b's ErrForm, ErrShape and ErrRange.
func TestP18_1FormFirst(t *testing.T) {
	for _, n := range badNumbers() {
		for _, a := range append(wrong(n), justWrong(n)...) {
			for _, b := range append(partners(), of(-1, 1), of(2, 2, api.Inf), a) {
				fails(t, a, b, api.ErrForm)
			}
		}
	}
}

// TestP18_1FormSecond: of b's, where a may be asked; where a is not finite, that comes first.
func TestP18_1FormSecond(t *testing.T) {
	for _, n := range badNumbers() {
		for _, b := range append(wrong(n), justWrong(n)...) {
			for _, a := range partners() {
				want := api.ErrForm
				if e := certify.Check(a); e != api.OK {
					want = e
				}
				fails(t, a, b, want)
			}
		}
	}
}

// TestP18_1Finite: one number that is not finite, at each place of a, of b, of both: before ErrShape and ErrRange; of a before b's ErrForm.
func TestP18_1Finite(t *testing.T) {
	d := dice(1820)
	others := append(partners(), of(-1, 1), of(2, 2, api.Inf), filled(7, 7, api.One))
	for _, s := range sizes() {
		for place := range s[0] * s[1] {
			for _, none := range notFinite() {
				for _, pick := range []func() api.Bits{d.near(-3, 6), d.out(noughts()), d.out([]api.Bits{greatest}), d.out(all())} {
					m := picked(s[0], s[1], pick)
					m.Data[place] = none
					fails(t, m, picked(s[0], s[1], pick), api.ErrFinite)
					fails(t, m, m, api.ErrFinite)
					fails(t, m, d.of(others), api.ErrFinite)
					for _, a := range []api.Matrix{eye(s[0]), filled(s[0], s[1], greatest), filled(s[1], s[0], api.Zero)} {
						fails(t, a, m, api.ErrFinite)
					}
				}
			}
		}
	}
}

// TestP18_1AsCheckSays: the errors of what may not be asked are those of the certifying layer, a's first.
func TestP18_1AsCheckSays(t *testing.T) {
	d := dice(1821)
	list := append(justWrong(api.One), justWrong(api.NaN)...)
	for _, s := range sizes() {
		list = append(list, picked(s[0], s[1], d.out(all())), picked(s[0], s[1], d.near(-3, 6)), picked(s[0], s[1], d.sparse(d.out(notFinite()))))
	}
	for _, a := range list {
		for _, b := range list {
			e := certify.Check(a)
			if e == api.OK {
				e = certify.Check(b)
			}
			if e != api.OK {
				fails(t, a, b, e)
			}
		}
	}
}

// TestP18_1Shape: all sizes with all others: a that is not square, b that is not, both square and of unlike sizes; before ErrRange.
func TestP18_1Shape(t *testing.T) {
	for _, one := range sizes() {
		for _, other := range sizes() {
			for _, n := range []api.Bits{api.One, api.NegZero, greatest, least} {
				a, b := filled(one[0], one[1], n), filled(other[0], other[1], n)
				if one[0] != one[1] || other[0] != other[1] || one[0] != other[0] {
					fails(t, a, b, api.ErrShape)
				} else {
					wantsGos(t, a, b)
				}
			}
		}
	}
}

// TestP18_1Sizes: the four have a's size, and as many numbers.
func TestP18_1Sizes(t *testing.T) {
	d := dice(1822)
	for n := range api.MaxDim + 1 {
		f, e := hess.Bring(picked(n, n, d.near(-3, 6)), picked(n, n, d.near(-3, 6)))
		for _, m := range parts(f) {
			if m.Rows != n || m.Cols != n || len(m.Data) != n*n || e != api.OK {
				t.Errorf("of %d rows: %v%s", n, e, showFour(f))
			}
		}
	}
}

// failsAt looks after ErrRange, and after what it is that could not be.
func failsAt(t *testing.T, what string, a, b api.Matrix) {
	t.Helper()
	if seen := wantsGos(t, a, b); seen.failed != what {
		t.Errorf("Bring of %s\nand %s: %q failed; wanted %q", show(a), show(b), seen.failed, what)
	}
}

// TestP18_1NoFactors: layer 14 can't factor b, in its first column, in later ones, or as r has a number that is not finite, whatever a is; nothing is turned of two rows, but b is factored.
func TestP18_1NoFactors(t *testing.T) {
	d := dice(1823)
	for n := 2; n <= api.MaxDim; n++ {
		for _, a := range []api.Matrix{eye(n), filled(n, n, api.Zero), filled(n, n, greatest), picked(n, n, d.near(-3, 6))} {
			for j := range n - 1 {
				for _, second := range []api.Bits{greatest, minus(greatest), power(1022), least} {
					b := eye(n)
					*at(b, j, j), *at(b, n-1, j) = greatest, second
					failsAt(t, "factors", a, b)
				}
			}
			b := filled(n, n, api.One)
			for i := range n {
				*at(b, i, n-1) = greatest // right of the columns that are mirrored
			}
			failsAt(t, "factors", a, b)
			if _, _, e := qr.Factor(b); e != api.ErrRange {
				t.Errorf("Factor of %s: %v", show(b), e)
			}
		}
	}
	wantsGos(t, filled(1, 1, greatest), filled(1, 1, greatest)) // of one row there is no mirror
}

// TestP18_1ProductTooGreat: q turned, times a, has a number that is not finite, in each column; also where nothing is turned.
func TestP18_1ProductTooGreat(t *testing.T) {
	d := dice(1824)
	for n := 2; n <= api.MaxDim; n++ {
		for k := range n {
			for _, sign := range noughts() {
				a, b := picked(n, n, d.near(-3, 6)), filled(n, n, api.One) // q's first column is that of One by the root of n, with the sign 1
				for i := range n {
					*at(a, i, k) = greatest ^ sign
				}
				failsAt(t, "product", a, b)
				for i := range n {
					*at(a, i, k) = power(1018) ^ sign
				}
				if seen := wantsGos(t, a, b); seen.failed != "" {
					t.Errorf("Bring of %s\nand %s: %s failed", show(a), show(b), seen.failed)
				}
			}
		}
	}
}

// TestP18_1NoTurnOfRows: a turn can't be made of h's numbers, since the one before told an r that is not finite, which is the lower one of the next turn's two numbers.
func TestP18_1NoTurnOfRows(t *testing.T) {
	for n := 4; n <= api.MaxDim; n++ {
		for j := range n - 3 {
			for i := j + 3; i < n; i++ {
				for _, sign := range noughts() {
					a := eye(n)
					*at(a, i-1, j), *at(a, i, j) = greatest, greatest^sign
					failsAt(t, "rows", a, eye(n))
					*at(a, i-1, j), *at(a, i, j) = power(1022), power(1022)
					if seen := wantsGos(t, a, eye(n)); seen.failed != "" {
						t.Errorf("Bring of %s: %s failed", show(a), seen.failed)
					}
				}
			}
		}
	}
}

// TestP18_1NoTurnOfColumns: a turn can't be made of t's numbers, since those were too great in rows that are turned.
func TestP18_1NoTurnOfColumns(t *testing.T) {
	for n := 3; n <= api.MaxDim; n++ {
		for i := 2; i < n; i++ {
			for _, sign := range noughts() {
				a, b := eye(n), eye(n)
				*at(a, i-1, 0), *at(a, i, 0) = api.One, api.One
				*at(b, i-1, i), *at(b, i, i) = greatest^sign, minus(greatest)^sign // turned by One and One by the root of 2: their sum and their difference by it
				failsAt(t, "columns", a, b)
				*at(b, i-1, i), *at(b, i, i) = power(1022)^sign, minus(power(1022))^sign
				if seen := wantsGos(t, a, b); seen.failed != "" {
					t.Errorf("Bring of %s\nand %s: %s failed", show(a), show(b), seen.failed)
				}
			}
		}
	}
}

// TestP18_1NotFiniteAtLast: every turn can be made, and h has a number that is not finite, below the diagonal, on it, or above it, or t has.
func TestP18_1NotFiniteAtLast(t *testing.T) {
	for n := 3; n <= api.MaxDim; n++ {
		a := eye(n)
		*at(a, n-2, n-3), *at(a, n-1, n-3) = greatest, greatest // the last turn's r
		failsAt(t, "last", a, eye(n))
		for i := range n - 2 {
			a = eye(n)
			*at(a, n-2, n-3), *at(a, n-1, n-3) = api.One, api.One
			*at(a, i, n-2), *at(a, i, n-1) = greatest, greatest // the last turn of columns makes it, above the diagonal
			failsAt(t, "last", a, eye(n))
			b := eye(n)
			*at(a, i, n-2), *at(a, i, n-1) = api.Zero, api.Zero
			*at(b, i, n-2), *at(b, i, n-1) = greatest, greatest
			failsAt(t, "last", a, b)
		}
		for k := n - 2; k < n; k++ {
			a = eye(n)
			*at(a, n-2, n-3), *at(a, n-1, n-3) = api.One, api.One
			*at(a, n-2, k), *at(a, n-1, k) = greatest, greatest // the last turn of rows
			failsAt(t, "last", a, eye(n))
		}
	}
	all := of(2, 2, greatest, greatest, greatest, greatest)
	failsAt(t, "product", all, of(2, 2, api.One, api.One, api.One, api.One)) // of two rows nothing is turned, but h is asked
}

// TestP18_1GreatestFits: the greatest number, where all turns are of noughts.
func TestP18_1GreatestFits(t *testing.T) {
	for n := range api.MaxDim + 1 {
		for _, m := range []api.Matrix{withDiagonal(n, n, api.Zero, filled(n, 1, greatest).Data...), withDiagonal(n, n, api.Zero, filled(n, 1, minus(greatest)).Data...)} {
			wants(t, m, m, hess.Four{H: m, T: m, Q: eye(n), Z: eye(n)})
			above := filled(n, n, greatest)
			for i := range n {
				for k := range i {
					*at(above, i, k) = api.Zero
				}
			}
			wants(t, above, m, hess.Four{H: above, T: m, Q: eye(n), Z: eye(n)})
			wants(t, m, above, hess.Four{H: m, T: above, Q: eye(n), Z: eye(n)})
		}
	}
}
