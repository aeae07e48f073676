package pivot_test

import (
	"math"
	"testing"

	"dioptra/api"
)

// gosTold is the rank told by the machine's own numbers.
func gosTold(r api.Matrix) int {
	rank := 0
	for rank < r.Rows && rank < r.Cols {
		if !(math.Abs(float(*at(r, rank, rank))) > math.Ldexp(math.Abs(float(*at(r, 0, 0))), -40)) {
			break
		}
		rank++
	}
	return rank
}

// withDiagonal is a matrix of one number, with these on its diagonal.
func withDiagonal(rows, cols int, other api.Bits, diagonal ...api.Bits) api.Matrix {
	m := filled(rows, cols, other)
	for j, b := range diagonal {
		*at(m, j, j) = b
	}
	return m
}

// TestP16_1ToldBound: at each place of the diagonal just the bound, the next number above it and the next one below it, of either sign.
func TestP16_1ToldBound(t *testing.T) {
	for _, first := range []api.Bits{api.One, three, api.One + 1, api.One - 1, power(200) - 1, greatest, power(-200), power(-900)} {
		bound := says(math.Ldexp(float(first), -40))
		for _, s := range sizes() {
			for j := 1; j < min(s[0], s[1]); j++ {
				for _, sign := range noughts() {
					for by, want := range map[int]int{-1: j, 0: j, 1: min(s[0], s[1])} {
						m := withDiagonal(s[0], s[1], api.One)
						for k := range min(s[0], s[1]) {
							*at(m, k, k) = first
						}
						*at(m, j, j) = (bound + api.Bits(by)) | sign
						wantsTold(t, m, want)
						*at(m, 0, 0) |= api.NegZero
						wantsTold(t, m, want)
					}
				}
			}
		}
	}
}

// TestP16_1ToldSmall: where the bound is rounded: it is the least number, or Zero.
func TestP16_1ToldSmall(t *testing.T) {
	lowest := func(e int) api.Bits { return says(math.Ldexp(1, e)) }
	for _, c := range []struct {
		first, second api.Bits
		want          int
	}{
		{least, least, 2},
		{least, api.Zero, 1},
		{least, api.NegZero, 1},
		{minus(least), minus(least), 2},
		{leastNormal, least, 1}, // its bound is 2^18 times the least one
		{lowest(-1034), least, 1},
		{lowest(-1034), 2, 2},
		{lowest(-1035), least, 2}, // half the least one is rounded to Zero
		{lowest(-1035), api.Zero, 1},
		{lowest(-1035) + 1, least, 1}, // and more than half of it to the least one
		{lowest(-1035) + 1, 2, 2},
		{3 * lowest(-1035), 2, 1}, // one and a half to twice
		{3 * lowest(-1035), 3, 2},
		{3*lowest(-1035) - 1, 2, 2},
	} {
		for _, signs := range [][2]api.Bits{{0, 0}, {0, api.NegZero}, {api.NegZero, 0}, {api.NegZero, api.NegZero}} {
			m := withDiagonal(2, 2, api.Zero, c.first^signs[0], c.second^signs[1])
			wantsTold(t, m, c.want)
		}
	}
}

// TestP16_1ToldNought: a first number that is a nought: no rank, whatever stands behind it.
func TestP16_1ToldNought(t *testing.T) {
	for _, s := range sizes() {
		for _, nought := range noughts() {
			for _, b := range finites() {
				m := filled(s[0], s[1], b)
				if len(m.Data) > 0 {
					m.Data[0] = nought
				}
				wantsTold(t, m, 0)
			}
		}
	}
}

// TestP16_1ToldFirstNotGreater: it is told up to the first number that is not greater, though one behind it would be again.
func TestP16_1ToldFirstNotGreater(t *testing.T) {
	for _, s := range sizes() {
		n := min(s[0], s[1])
		for j := range n {
			for _, low := range []api.Bits{api.Zero, api.NegZero, least, power(-39), minus(power(-39))} {
				m := withDiagonal(s[0], s[1], greatest)
				for k := range n {
					*at(m, k, k) = two
				}
				*at(m, j, j) = low
				want := j
				if j == 0 && low&^api.NegZero != api.Zero { // then it is the one that the others are held against
					want = n
				}
				wantsTold(t, m, want)
			}
		}
	}
}

// TestP16_1ToldSizes: of no rows or no columns it is 0; of all others with ones on the diagonal it is as many as there are, whatever stands beside it.
func TestP16_1ToldSizes(t *testing.T) {
	d := dice(1625)
	for _, s := range sizes() {
		for _, pick := range d.sorts() {
			m := picked(s[0], s[1], pick)
			for k := range min(s[0], s[1]) {
				*at(m, k, k) = api.One ^ d.out(noughts())()
			}
			wantsTold(t, m, min(s[0], s[1]))
		}
	}
}

// TestP16_1ToldGosOwn: of any finite numbers it is what the machine's own numbers say.
func TestP16_1ToldGosOwn(t *testing.T) {
	d := dice(1626)
	ranks := map[int]int{}
	for _, s := range sizes() {
		for _, pick := range append(d.sorts(), d.near(-50, 60), d.near(-1022, 60), d.near(-1022, 30)) {
			for range 10 {
				m := picked(s[0], s[1], pick)
				want := gosTold(m)
				ranks[want]++
				wantsTold(t, m, want)
			}
		}
	}
	for rank := range api.MaxDim + 1 {
		if ranks[rank] < 20 {
			t.Errorf("which ranks: %v", ranks)
		}
	}
}
