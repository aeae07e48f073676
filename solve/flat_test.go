package solve_test

import (
	"math"
	"testing"

	"dioptra/api"
	"dioptra/certify"
)

// gosFlat says by the machine's own numbers whether r is flat.
func gosFlat(r api.Matrix) bool {
	most, low := 0.0, math.Inf(1)
	for j := range min(r.Rows, r.Cols) {
		f := math.Abs(float(*at(r, j, j)))
		most, low = max(most, f), min(low, f)
	}
	return low <= math.Ldexp(most, -40)
}

// TestP17_1FlatBound: at each place of the diagonal the greatest number, at each other one just the bound, the next number above it and the next one below it, of either sign, whatever stands beside.
func TestP17_1FlatBound(t *testing.T) {
	d := dice(1720)
	for _, most := range []api.Bits{api.One, three, api.One + 1, api.One - 1, power(200) - 1, greatest, power(-200), power(-900)} {
		bound := says(math.Ldexp(float(most), -40))
		for _, s := range sizes() {
			n := min(s[0], s[1])
			for i := range n {
				for j := range n {
					if i == j {
						continue
					}
					for by, want := range map[int]bool{-1: true, 0: true, 1: false} {
						m := picked(s[0], s[1], d.out(finites()))
						for k := range n {
							*at(m, k, k) = says(math.Ldexp(float(most), -d.below(40)))
						}
						*at(m, i, i) = most ^ noughts()[d.below(2)]
						*at(m, j, j) = (bound + api.Bits(by)) ^ noughts()[d.below(2)]
						wantsFlat(t, m, want)
					}
				}
			}
		}
	}
}

// TestP17_1FlatSmall: where the bound is rounded: it is the least number, or Zero.
func TestP17_1FlatSmall(t *testing.T) {
	lowest := func(e int) api.Bits { return says(math.Ldexp(1, e)) }
	for _, c := range []struct {
		most, low api.Bits
		want      bool
	}{
		{least, least, false},
		{least, api.Zero, true},
		{leastNormal, least, true}, // its bound is 2^12 times the least one
		{leastNormal, 1<<12 + 1, false},
		{leastNormal, 1 << 12, true},
		{lowest(-1034), least, true},
		{lowest(-1034), 2, false},
		{lowest(-1035), least, false}, // half the least one is rounded to Zero
		{lowest(-1035), api.Zero, true},
		{lowest(-1035) + 1, least, true}, // and more than half of it to the least one
		{lowest(-1035) + 1, 2, false},
		{says(math.Ldexp(3, -1035)), 2, true}, // one and a half to twice
		{says(math.Ldexp(3, -1035)), 3, false},
		{says(math.Ldexp(3, -1035)) - 1, 2, false},
	} {
		for _, one := range noughts() {
			for _, other := range noughts() {
				wantsFlat(t, withDiagonal(2, 2, api.Zero, c.most^one, c.low^other), c.want)
				wantsFlat(t, withDiagonal(2, 3, greatest, c.low^one, c.most^other), c.want)
				wantsFlat(t, withDiagonal(4, 3, greatest, c.most, c.low^one, c.most^other), c.want)
			}
		}
	}
}

// TestP17_1FlatAlone: one number is never next to nothing beside itself, the least one neither; a nought is, of either sign.
func TestP17_1FlatAlone(t *testing.T) {
	for _, s := range sizes() {
		n := min(s[0], s[1])
		for _, b := range finites() {
			wantsFlat(t, filled(s[0], s[1], b), n > 0 && float(b) == 0)
			for j := range n {
				for _, nought := range noughts() {
					m := filled(s[0], s[1], b)
					*at(m, j, j) = nought
					wantsFlat(t, m, true)
				}
			}
		}
	}
}

// TestP17_1FlatEmpty: of no rows, of no columns.
func TestP17_1FlatEmpty(t *testing.T) {
	for n := range api.MaxDim + 1 {
		wantsFlat(t, of(0, n), false)
		wantsFlat(t, of(n, 0), false)
	}
}

// TestP17_1FlatNotAsked: what is not on the diagonal is neither what the others are held against nor what is held against them.
func TestP17_1FlatNotAsked(t *testing.T) {
	for _, s := range sizes() {
		for _, other := range finites() {
			m := filled(s[0], s[1], other)
			for j := range min(s[0], s[1]) {
				*at(m, j, j) = three
			}
			wantsFlat(t, m, false)
		}
	}
}

// TestP17_1FlatGosOwn: of any finite numbers it is what the machine's own numbers say.
func TestP17_1FlatGosOwn(t *testing.T) {
	d := dice(1721)
	count := map[bool]int{}
	for _, s := range sizes() {
		for _, pick := range append(d.sorts(), d.near(-50, 60), d.near(-1022, 60), d.near(-1022, 30)) {
			for range 10 {
				m := picked(s[0], s[1], pick)
				want := gosFlat(m)
				count[want]++
				wantsFlat(t, m, want)
			}
		}
	}
	if count[true] < 2000 || count[false] < 2000 {
		t.Errorf("which are flat: %v", count)
	}
}

// TestP17_1FlatErrors: as the certifying layer checks.
func TestP17_1FlatErrors(t *testing.T) {
	for _, b := range badNumbers() {
		for _, m := range append(wrong(b), justWrong(b)...) {
			flatFails(t, m, api.ErrForm)
		}
	}
	d := dice(1722)
	for _, s := range sizes() {
		for place := range s[0] * s[1] {
			for _, none := range notFinite() {
				for _, pick := range []func() api.Bits{d.near(-3, 6), d.out(noughts()), d.out(all())} {
					m := picked(s[0], s[1], pick)
					m.Data[place] = none
					flatFails(t, m, api.ErrFinite)
				}
			}
		}
		for _, pick := range []func() api.Bits{d.any(), d.out(all())} {
			m := picked(s[0], s[1], pick)
			if e := certify.Check(m); e != api.OK {
				flatFails(t, m, e)
			} else {
				wantsFlat(t, m, gosFlat(m))
			}
		}
	}
}
