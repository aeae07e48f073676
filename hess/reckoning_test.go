package hess_test

import (
	"testing"

	"dioptra/api"
	"dioptra/givens"
	"dioptra/hess"
	"dioptra/matrix"
	"dioptra/qr"
)

// wantsGos looks after what the machine's own numbers say, and tells how they went.
func wantsGos(t *testing.T, a, b api.Matrix) course {
	t.Helper()
	want, seen := gosBring(a, b)
	if seen.failed == "" {
		wants(t, a, b, want)
	} else {
		fails(t, a, b, api.ErrRange)
	}
	return seen
}

// TestP18_1GosOwn goes over all sizes with numbers of all sorts, of very unlike sizes, the greatest and the least among them.
func TestP18_1GosOwn(t *testing.T) {
	d := dice(1801)
	for n := range api.MaxDim + 1 {
		for _, pick := range d.sorts() {
			for range 4 {
				wantsGos(t, picked(n, n, pick), picked(n, n, pick))
			}
		}
	}
}

// TestP18_1Unlike: a and b of unlike sorts.
func TestP18_1Unlike(t *testing.T) {
	d := dice(1802)
	for _, one := range d.sorts() {
		for _, other := range d.sorts() {
			n := 3 + d.below(4)
			wantsGos(t, picked(n, n, one), picked(n, n, other))
		}
	}
}

// TestP18_1Noughts: b with noughts on its diagonal, at all sets of places, b with a column of noughts, b of just noughts, and b that is 0 below its diagonal; a of just noughts.
func TestP18_1Noughts(t *testing.T) {
	d := dice(1803)
	for n := range api.MaxDim + 1 {
		for _, pick := range []func() api.Bits{d.near(-3, 6), d.small(3), d.sparse(d.small(2)), d.out(finites())} {
			a := picked(n, n, pick)
			for places := range 1 << n {
				b := d.noughtDiagonal(picked(n, n, pick), places)
				wantsGos(t, a, b)
				wantsGos(t, a, d.upper(b))
			}
			for k := range n {
				b := d.noughtColumn(picked(n, n, pick), k)
				wantsGos(t, a, b)
				wantsGos(t, a, d.noughtColumn(b, d.below(n)))
				wantsGos(t, a, d.upper(b))
				wantsGos(t, d.noughtColumn(a, k), b)
			}
			for _, none := range []api.Matrix{filled(n, n, api.Zero), filled(n, n, api.NegZero), picked(n, n, d.out(noughts()))} {
				wantsGos(t, a, none)
				wantsGos(t, none, picked(n, n, pick))
				wantsGos(t, none, none)
			}
			wantsGos(t, a, a)
		}
	}
}

// TestP18_1Multiples: columns that are multiples of one another, in a, in b, in both.
func TestP18_1Multiples(t *testing.T) {
	d := dice(1809)
	for n := range api.MaxDim + 1 {
		for _, pick := range append(d.middle(), d.tiny(), d.near(-1022, 4), d.near(1010, 6)) {
			wantsGos(t, picked(n, n, pick), d.multiples(n, pick))
			wantsGos(t, d.multiples(n, pick), picked(n, n, pick))
			wantsGos(t, d.multiples(n, pick), d.multiples(n, pick))
		}
	}
}

// TestP18_1Courses guards the tests: among such matrices are turns of two noughts of either sign, of rows and of columns, and noughts with the sign 1 that are Zero at last; and turning gives other numbers than r and Zero in their places.
func TestP18_1Courses(t *testing.T) {
	d := dice(1804)
	var all course
	for _, pick := range []func() api.Bits{d.small(1), d.sparse(d.small(1)), d.sparse(d.near(-3, 6)), d.near(-3, 6)} {
		for range 500 {
			n := 5 + d.below(2)
			seen := wantsGos(t, picked(n, n, pick), picked(n, n, pick))
			if seen.failed != "" || !seen.kept || seen.steps != (n-1)*(n-2)/2 {
				t.Errorf("of %d rows: %+v", n, seen)
			}
			for which := range 2 {
				for i := range 4 {
					all.noughts[which][i] += seen.noughts[which][i]
				}
				for i := range 2 {
					all.others[which][i] += seen.others[which][i]
				}
				all.below[which] += seen.below[which]
			}
		}
	}
	for which := range 2 {
		for _, count := range append(append(all.noughts[which][:], all.others[which][:]...), all.below[which]) {
			if count < 5 {
				t.Errorf("what was seen: %+v", all)
			}
		}
	}
}

// TestP18_1Failures guards the tests: matrices of numbers near the greatest one come to all errors that there are, and to none.
func TestP18_1Failures(t *testing.T) {
	d := dice(1805)
	count := map[string]int{}
	great := d.sparse(d.near(1019, 5))
	for range 1000 {
		n := 3 + d.below(4)
		count[wantsGos(t, picked(n, n, great), picked(n, n, great)).failed]++
		count[wantsGos(t, picked(n, n, great), picked(n, n, d.near(-3, 6))).failed]++
		count[wantsGos(t, picked(n, n, d.near(-3, 6)), d.upper(picked(n, n, great))).failed]++
		count[wantsGos(t, picked(n, n, great), d.upper(picked(n, n, great))).failed]++
	}
	for _, which := range []string{"", "factors", "product", "rows", "columns", "last"} {
		if count[which] < 20 {
			t.Errorf("what failed: %v", count)
		}
	}
}

// TestP18_1ByHand: which rows, which columns, and in which order.
func TestP18_1ByHand(t *testing.T) {
	wants(t, of(0, 0), of(0, 0), hess.Four{})
	wants(t, wholes(1, -3), wholes(1, 5), hess.Four{H: wholes(1, -3), T: wholes(1, 5), Q: eye(1), Z: eye(1)})
	wants(t, of(1, 1, api.NegZero), of(1, 1, api.NegZero), hess.Four{H: of(1, 1, api.Zero), T: of(1, 1, api.NegZero), Q: eye(1), Z: eye(1)}) // a product is summed up from Zero on
	swap := of(2, 2, api.Zero, minus(api.One), minus(api.One), api.Zero)
	wants(t, wholes(2, 1, 2, 3, 4), wholes(2, 0, 5, 1, 6), hess.Four{H: wholes(2, -3, -4, -1, -2), T: wholes(2, -1, -6, 0, -5), Q: swap, Z: eye(2)})
	wants(t, wholes(3, 1, 2, 3, 0, 4, 5, 6, 7, 8), eye(3), hess.Four{
		H: wholes(3, 1, -3, 2, 6, -8, 7, 0, 5, -4),
		T: wholes(3, 1, 0, 0, 0, -1, 0, 0, 0, -1),
		Q: wholes(3, 1, 0, 0, 0, 0, -1, 0, 1, 0),
		Z: wholes(3, 1, 0, 0, 0, 0, 1, 0, -1, 0),
	})
	wants(t, wholes(4, 1, 2, 3, 4, 0, 5, 6, 7, 0, 8, 9, 0, 2, 3, 4, 5), eye(4), hess.Four{ // row 3 comes to row 2, then to row 1, and the others follow it
		H: wholes(4, 1, 4, 2, 3, 2, 5, 3, 4, 0, -7, -5, -6, 0, 0, -8, -9),
		T: wholes(4, 1, 0, 0, 0, 0, 1, 0, 0, 0, 0, -1, 0, 0, 0, 0, -1),
		Q: wholes(4, 1, 0, 0, 0, 0, 0, -1, 0, 0, 0, 0, -1, 0, 1, 0, 0),
		Z: wholes(4, 1, 0, 0, 0, 0, 0, 1, 0, 0, 0, 0, 1, 0, 1, 0, 0),
	})
}

// TestP18_1NothingTurned: of fewer than three rows t and q are b's factors, h is q turned, times a, and z is Eye.
func TestP18_1NothingTurned(t *testing.T) {
	d := dice(1806)
	for n := range 3 {
		for _, pick := range append(d.middle(), d.near(-1022, 4), d.tiny(), d.near(506, 10)) {
			for range 10 {
				a, b := picked(n, n, pick), picked(n, n, pick)
				q, r, _ := qr.Factor(b)
				h, _ := qr.Turned(q, a)
				wants(t, a, b, hess.Four{H: h, T: r, Q: q, Z: eye(n)})
			}
		}
	}
}

// TestP18_1OneStep: of three rows there is one turn of rows, and one of columns.
func TestP18_1OneStep(t *testing.T) {
	d := dice(1807)
	for _, pick := range append(d.middle(), d.near(-1022, 4), d.tiny(), d.near(506, 10)) {
		for range 10 {
			a, b := picked(3, 3, pick), picked(3, 3, pick)
			var f hess.Four
			f.Q, f.T, _ = qr.Factor(b)
			f.H, _ = qr.Turned(f.Q, a)
			c, s, r, _ := givens.Turn(*at(f.H, 1, 0), *at(f.H, 2, 0))
			f.H, _ = givens.Rows(f.H, 1, 2, c, s)
			f.T, _ = givens.Rows(f.T, 1, 2, c, s)
			f.Q, _ = givens.Cols(f.Q, 1, 2, c, s)
			*at(f.H, 1, 0), *at(f.H, 2, 0) = r, api.Zero
			c, s, r, _ = givens.Turn(*at(f.T, 2, 2), *at(f.T, 2, 1))
			f.T, _ = givens.Cols(f.T, 2, 1, c, s)
			f.H, _ = givens.Cols(f.H, 2, 1, c, s)
			f.Z, _ = givens.Cols(eye(3), 2, 1, c, s)
			*at(f.T, 2, 2), *at(f.T, 2, 1) = r, api.Zero
			*at(f.T, 1, 0), *at(f.T, 2, 0) = api.Zero, api.Zero // noughts already, but maybe below 0
			wants(t, a, b, f)
		}
	}
}

// TestP18_1LostDigits: b whose last mirror is made of numbers of but few digits, as mirrors before it have made them so small, is brought in the written order all the same, though its q does not stand upright.
func TestP18_1LostDigits(t *testing.T) {
	b := withDiagonal(6, 6, api.Zero, power(99), minus(power(99)+1), power(99), power(99))
	for _, i := range []int{1, 4, 5} {
		*at(b, i, 0) = power(-100)
	}
	*at(b, 2, 1), *at(b, 3, 1) = minus(power(-100)), minus(power(-100))
	*at(b, 1, 3) = api.One
	*at(b, 1, 4), *at(b, 2, 4), *at(b, 3, 4) = power(99)+1, power(-100), power(-100)+1
	if !ofMiddle(b) {
		t.Errorf("%s is very great or very small", show(b))
	}
	if q, r, e := qr.Factor(b); *at(r, 4, 4) != 0x2d413cd || standsUpright(q, 76) || e != api.OK { // the root of 2^51, of which 26 digits are left
		t.Errorf("%s: q %s, r %s, %v", show(b), show(q), show(r), e)
	}
	d := dice(1810)
	for _, a := range []api.Matrix{eye(6), b, picked(6, 6, d.near(-3, 6)), picked(6, 6, d.near(-100, 200))} {
		if seen := wantsGos(t, a, b); seen.failed != "" {
			t.Errorf("Bring of %s\nand %s: %s failed", show(a), show(b), seen.failed)
		}
	}
}

// TestP1ByLayersBelow: the four are what the calls of layers 10, 12 and 14 give, one after another.
func TestP1ByLayersBelow(t *testing.T) {
	d := dice(1808)
	for n := range api.MaxDim + 1 {
		for _, pick := range d.middle() {
			a, b := picked(n, n, pick), picked(n, n, pick)
			var f hess.Four
			f.Q, f.T, _ = qr.Factor(b)
			f.H, _ = matrix.Mul(turned(f.Q), a)
			f.Z, _ = matrix.Eye(n)
			for j := 0; j < n-2; j++ {
				for i := n - 1; i >= j+2; i-- {
					c, s, r, _ := givens.Turn(*at(f.H, i-1, j), *at(f.H, i, j))
					f.H, _ = givens.Rows(f.H, i-1, i, c, s)
					f.T, _ = givens.Rows(f.T, i-1, i, c, s)
					f.Q, _ = givens.Cols(f.Q, i-1, i, c, s)
					*at(f.H, i-1, j), *at(f.H, i, j) = r, api.Zero
					c, s, r, _ = givens.Turn(*at(f.T, i, i), *at(f.T, i, i-1))
					f.T, _ = givens.Cols(f.T, i, i-1, c, s)
					f.H, _ = givens.Cols(f.H, i, i-1, c, s)
					f.Z, _ = givens.Cols(f.Z, i, i-1, c, s)
					*at(f.T, i, i), *at(f.T, i, i-1) = r, api.Zero
				}
			}
			for i := range n {
				for j := range i {
					*at(f.T, i, j) = api.Zero
					if i > j+1 {
						*at(f.H, i, j) = api.Zero
					}
				}
			}
			wants(t, a, b, f)
		}
	}
}
