package svd_test

import (
	"math"
	"slices"
	"testing"

	"dioptra/api"
	"dioptra/svd"
)

// orders are all orders of n places.
func orders(n int) [][]int {
	if n == 0 {
		return [][]int{nil}
	}
	var list [][]int
	for _, order := range orders(n - 1) {
		for at := range n {
			list = append(list, slices.Insert(slices.Clone(order), at, n-1))
		}
	}
	return list
}

// TestP19_1Order: columns that stand upright from the start, in all orders: in order already, upside down, and others.
func TestP19_1Order(t *testing.T) {
	t.Parallel()
	for n := range 6 {
		down := filled(n, n, api.Zero) // n, n - 1 and so on
		for k := range n {
			*at(down, k, k) = says(float64(n-k) * alternating(k))
		}
		list := make([]api.Bits, n)
		for k := range list {
			list[k] = says(float64(n - k))
		}
		for _, order := range orders(n) {
			back := make([]int, n)
			for from, to := range order {
				back[to] = from
			}
			wants(t, chosen(down, order...), down, chosen(eye(n), back...), list...)
		}
	}
}

// alternating is 1, or of odd places -1: signs say nothing of the order.
func alternating(k int) float64 {
	return float64(1 - k%2*2)
}

// TestP19_1OrderOfAlike: norms that are alike, all of them, two of them, and so on: the lesser place comes first.
func TestP19_1OrderOfAlike(t *testing.T) {
	t.Parallel()
	for n := range api.MaxDim + 1 {
		for kinds := range 1 << n {
			var great, lesser []int
			a := filled(n, n, api.Zero)
			for k := range n {
				*at(a, k, k) = says(alternating(k))
				if kinds>>k&1 == 1 {
					*at(a, k, k) = says(2 * alternating(k))
					great = append(great, k)
				} else {
					lesser = append(lesser, k)
				}
			}
			order := append(slices.Clone(great), lesser...)
			list := append(filled(len(great), 1, two).Data, filled(len(lesser), 1, api.One).Data...)
			wants(t, a, chosen(a, order...), chosen(eye(n), order...), list...)
		}
	}
	wants(t, wholes(2, 2, 3, -4, 4, 3), wholes(2, 2, 3, -4, 4, 3), eye(2), says(5), says(5))
	signs := wholes(4, 4, 1, 1, 1, 1, 1, -1, 1, -1, 1, 1, -1, -1, 1, -1, -1, 1)
	wants(t, signs, signs, eye(4), two, two, two, two)
}

// svdOf is what the machine's own numbers say.
func svdOf(a api.Matrix) answer {
	told, _ := gosUpright(a)
	return told
}

// TestP19_1ByPowersOfTwo: times a power of two, where nothing is lost, w and the sizes are that times as much, and v is as it was: down to where the least number is One, and up to the greatest one.
func TestP19_1ByPowersOfTwo(t *testing.T) {
	t.Parallel()
	d := dice(1920)
	for _, s := range sizes() {
		a := picked(s[0], s[1], d.small(9))
		want := svdOf(a)
		for _, k := range []int{-900, -500, -44, -1, 1, 44, 500, 1018} {
			wants(t, shifted(a, k), shifted(want.w, k), want.v, shifted(of(1, s[1], want.sizes...), k).Data...)
		}
	}
}

// TestP19_1LeastPower: k is the least there is, where all numbers are the least ones above 0 and below it: they are turned as One is, and rounded at last.
func TestP19_1LeastPower(t *testing.T) {
	c := rootHalf
	wants(t, of(1, 1, least), of(1, 1, least), eye(1), least)
	wants(t, of(1, 1, minus(least)), of(1, 1, minus(least)), eye(1), least)
	wants(t, of(2, 2, least, api.Zero, api.Zero, minus(least)), of(2, 2, least, api.Zero, api.Zero, minus(least)), eye(2), least, least)
	wants(t, of(2, 2, least, least, least, least), of(2, 2, least, api.Zero, least, api.Zero), of(2, 2, c, c, c, minus(c)), least, api.Zero)               // the root of 2 is rounded to 1, and so is the norm of 1 and 1
	wants(t, of(2, 2, 3, 3, 3, 3), of(2, 2, 4, api.Zero, 4, api.Zero), of(2, 2, c, c, c, minus(c)), 6, api.Zero)                                           // 3 times the root of 2 to 4, and 4 times it to 6
	wants(t, of(2, 2, least, minus(least), least, minus(least)), of(2, 2, minus(least), 0, minus(least), 0), of(2, 2, minus(c), c, c, c), least, api.Zero) // z is a nought with the sign 1
	wants(t, of(2, 2, 1, 2, 2, 1), of(2, 2, 2, minus(least), 2, least), of(2, 2, c, c, c, minus(c)), 3, least)                                             // 3 times the half root, 2.12, to 2, the half root, 0.7, to 1
}

// TestP19_1GreatestPower: k is the greatest there is: what is far less is rounded by Shift by -k, to numbers of fewer digits, or to a nought of its sign.
func TestP19_1GreatestPower(t *testing.T) {
	wants(t, of(1, 1, greatest), of(1, 1, greatest), eye(1), greatest)
	wants(t, of(1, 1, minus(greatest)), of(1, 1, minus(greatest)), eye(1), greatest)
	wants(t, of(1, 3, greatest, least, minus(least)), of(1, 3, greatest, api.Zero, api.NegZero), eye(3), greatest, api.Zero, api.Zero)
	wants(t, of(2, 1, power(1023), leastNormal+1), of(2, 1, power(1023), api.Zero), eye(1), power(1023))
	wants(t, of(2, 1, power(1023), power(-1)), of(2, 1, power(1023), power(-1)), eye(1), power(1023))                              // 2^-1024, exactly
	wants(t, of(2, 1, power(1023), api.One+1), of(2, 1, power(1023), api.One), eye(1), power(1023))                                // 2^-1023 is rounded there
	wants(t, of(2, 1, power(1023), minus(api.One+3)), of(2, 1, power(1023), minus(api.One+4)), eye(1), power(1023))                // to the even one
	wants(t, of(2, 1, power(1023), power(-51)), of(2, 1, power(1023), power(-51)), eye(1), power(1023))                            // the least number, exactly
	wants(t, of(2, 1, power(1023), minus(power(-52))), of(2, 1, power(1023), api.NegZero), eye(1), power(1023))                    // half of it
	wants(t, of(2, 1, minus(power(1023)), power(-52)+1), of(2, 1, minus(power(1023)), power(-51)), eye(1), power(1023))            // more than half
	wants(t, of(2, 2, power(1023), 0, 0, leastNormal), of(2, 2, power(1023), 0, 0, 0), eye(2), power(1023), api.Zero)              // a whole column is lost
	wants(t, of(2, 2, 0, power(1022), power(1023), 0), of(2, 2, 0, power(1022), power(1023), 0), eye(2), power(1023), power(1022)) // and nothing here
	wants(t, of(2, 2, 0, power(1023), power(1022), 0), of(2, 2, power(1023), 0, 0, power(1022)), wholes(2, 2, 0, 1, 1, 0), power(1023), power(1022))
	wants(t, of(1, 3, power(-51), power(-50), power(1023)), of(1, 3, power(1023), power(-50), power(-51)), wholes(3, 3, 0, 0, 1, 0, 1, 0, 1, 0, 0), power(1023), power(-50), power(-51)) // the two least numbers are put in order
}

// TestP19_1SizesWithoutAnEnd: where w and v are finite, but a norm is not, that is told as it is.
func TestP19_1SizesWithoutAnEnd(t *testing.T) {
	for n := 2; n <= api.MaxDim; n++ {
		column := filled(n, 1, greatest)
		wants(t, column, column, eye(1), api.Inf)
		*at(column, 1, 0) = minus(greatest)
		wants(t, column, column, eye(1), api.Inf)
		beside := filled(n, 2, api.Zero)
		*at(beside, 0, 1), *at(beside, n-1, 1), *at(beside, 0, 0), *at(beside, n-1, 0) = greatest, greatest, power(1000), minus(power(1000))
		wants(t, beside, chosen(beside, 1, 0), wholes(2, 2, 0, 1, 1, 0), api.Inf, normOf(t, beside, 0))
	}
	if n := svd.Rank([]api.Bits{api.Inf, power(1000)}); n != 0 { // of a first size without an end no part is less
		t.Errorf("Rank: %d", n)
	}
}

// TestP19_1SizesOfWhatIsTold: sizes are reckoned anew after Shift by k, and the order of columns is not: so where Shift rounds they may grow, and are not those of before, shifted.
func TestP19_1SizesOfWhatIsTold(t *testing.T) {
	t.Parallel()
	d := dice(1921)
	c := rootHalf
	a := of(6, 3, 1, 1, 2, 1, 1, minus(2), 1, 1, 0, 1, 1, 0, 1, 1, 0, 1, 1, 0) // the root of 12 comes ahead of that of 8, but of the half root all that is left is 1
	wants(t, a, of(6, 3, 1, 2, 0, 1, minus(2), 0, 1, 0, 0, 1, 0, 0, 1, 0, 0, 1, 0, 0), of(3, 3, c, 0, c, c, 0, minus(c), 0, api.One, 0), 2, 3, 0)
	grown, other := 0, 0
	for range 400 {
		a := picked(6, 3, d.tiniest(2))
		for i := range a.Rows {
			*at(a, i, 0) = least | *at(a, i, 0)&api.NegZero
			*at(a, i, 1) = *at(a, i, 0)
		}
		seen := wantsGos(t, a)
		if seen.grown {
			grown++
		}
		got, great := ask(a), ask(shifted(a, 1074)) // the same, but not rounded at last
		for k, size := range got.sizes {
			if says(math.Ldexp(float(great.sizes[k]), -1074)) != size {
				other++
			}
			if normOf(t, got.w, k) != size {
				t.Errorf("%s: sizes %x", show(got.w), got.sizes)
			}
		}
	}
	if grown < 10 || other < 100 {
		t.Errorf("%d grew, %d were others", grown, other)
	}
}
