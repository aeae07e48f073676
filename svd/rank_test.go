package svd_test

import (
	"math"
	"slices"
	"testing"

	"dioptra/api"
	"dioptra/certify"
	"dioptra/svd"
)

// wantsRank looks after what Rank says, and that the sizes stay as they are.
func wantsRank(t *testing.T, want int, sizes ...api.Bits) {
	t.Helper()
	before := slices.Clone(sizes)
	if got := svd.Rank(sizes); got != want || !slices.Equal(sizes, before) {
		t.Errorf("Rank of %x: %d; wanted %d; they became %x", before, got, want, sizes)
	}
}

// TestP19_1RankByHand: none, one, several; a first one that is a nought; a greater one behind the first that is not.
func TestP19_1RankByHand(t *testing.T) {
	wantsRank(t, 0)
	wantsRank(t, 1, api.One)
	wantsRank(t, 1, least)
	wantsRank(t, 1, greatest)
	wantsRank(t, 2, four, three)
	wantsRank(t, 2, three, four)
	wantsRank(t, 1, four, api.Zero)
	wantsRank(t, 1, four, api.NegZero, four)
	wantsRank(t, 1, four, api.Zero, four)
	wantsRank(t, 2, four, three, api.Zero, three, two, api.One)
	wantsRank(t, 1, four, minus(four))
	wantsRank(t, 0, minus(four), four) // more than a part of itself it is not
	for _, nought := range noughts() {
		wantsRank(t, 0, nought)
		wantsRank(t, 0, nought, api.One)
		wantsRank(t, 0, nought, greatest, greatest)
	}
}

// TestP19_1RankBound: at each place just the bound, the next number above it, and the next one below it.
func TestP19_1RankBound(t *testing.T) {
	for _, first := range []api.Bits{api.One, three, api.One + 1, api.One - 1, power(200) - 1, greatest, power(-200), power(-900)} {
		bound := says(math.Ldexp(float(first), -40))
		for n := 2; n <= 8; n++ {
			for at := 1; at < n; at++ {
				for by, want := range map[int]int{-1: at, 0: at, 1: n} {
					sizes := filled(n, 1, first).Data
					sizes[at] = bound + api.Bits(by)
					wantsRank(t, want, sizes...)
				}
			}
		}
	}
}

// TestP19_1RankSmall: where the bound is rounded: to the least number, or to Zero.
func TestP19_1RankSmall(t *testing.T) {
	lowest := func(e int) api.Bits { return says(math.Ldexp(1, e)) }
	wantsRank(t, 2, least, least)
	wantsRank(t, 1, least, api.Zero)
	wantsRank(t, 1, leastNormal, least)
	wantsRank(t, 1, lowest(-1034), least)
	wantsRank(t, 2, lowest(-1034), 2)
	wantsRank(t, 2, lowest(-1035), least) // half the least one is rounded to Zero
	wantsRank(t, 1, lowest(-1035), api.Zero)
	wantsRank(t, 1, lowest(-1035)+1, least) // and more than half of it to the least one
	wantsRank(t, 2, lowest(-1035)+1, 2)
	wantsRank(t, 1, 3*lowest(-1035), 2) // one and a half to twice
	wantsRank(t, 2, 3*lowest(-1035), 3)
	wantsRank(t, 0, minus(least), greatest) // it is not more than NegZero
}

// TestP19_1RankOddNumbers: what is no number is not greater than another one, and no other one is greater than a part of it; Inf is greater than all but a part of itself.
func TestP19_1RankOddNumbers(t *testing.T) {
	for _, none := range notFinite() {
		wantsRank(t, 0, none)
		wantsRank(t, 0, none, none)
		for _, b := range finites() {
			wantsRank(t, 0, none, b) // of NegInf a part is NegInf, and so not less than that
		}
		want := 1
		if none == api.Inf {
			want = 3
		}
		wantsRank(t, want, api.One, none, api.One)
	}
}

// TestP19_1RankGosOwn: of any numbers, and of long lists, it is what the machine's own numbers say.
func TestP19_1RankGosOwn(t *testing.T) {
	d := dice(1950)
	count := map[int]int{}
	whatever := func() api.Bits { return api.Bits(d.roll()) }
	for _, pick := range append(d.sorts(), whatever, d.out(all()), d.near(-50, 60), d.near(-1022, 60), d.near(-40, 41)) {
		for n := range 12 {
			for range 10 {
				for _, side := range []api.Bits{api.NegZero, 0} { // all without their signs, or as they are
					sizes := picked(n, 1, pick).Data
					for i := range sizes {
						sizes[i] &^= side
					}
					want := gosRank(sizes)
					count[want]++
					wantsRank(t, want, sizes...)
				}
			}
		}
	}
	for rank := range 8 {
		if count[rank] < 20 {
			t.Errorf("which ranks: %v", count)
		}
	}
	long := filled(1, 1, two).Data
	for range 1000 {
		long = append(long, api.One)
	}
	wantsRank(t, 1001, long...)
	wantsRank(t, 1001, append(long, power(-39))...)
}

// TestP19_1RankOfWhatIsTold: of small whole numbers it is the exact rank, of a's columns.
func TestP19_1RankOfWhatIsTold(t *testing.T) {
	t.Parallel()
	d := dice(1951)
	count := map[int]int{}
	for _, s := range sizes() {
		for _, pick := range []func() api.Bits{d.small(1), d.small(3), d.small(9), d.sparse(d.small(2))} {
			for _, a := range []api.Matrix{picked(s[0], s[1], pick), d.noughtColumn(picked(s[0], max(1, s[1]), pick), 0)} {
				want, e := certify.Rank(a)
				count[want]++
				if e != api.OK {
					t.Errorf("%s: %v", show(a), e)
				}
				wantsRank(t, want, ask(a).sizes...)
			}
		}
	}
	for rank := range api.MaxDim + 1 {
		if count[rank] < 3 {
			t.Errorf("which ranks: %v", count)
		}
	}
}

// TestP19_1RankKeepsToTheList: what lies in the room behind a list's end is not asked.
func TestP19_1RankKeepsToTheList(t *testing.T) {
	sizes := []api.Bits{four, three, two, greatest}
	for n := range sizes {
		wantsRank(t, n, sizes[:n]...)
	}
	if sizes[3] != greatest {
		t.Errorf("they became %x", sizes)
	}
}
