package soft_test

import (
	"fmt"
	"math"
	"math/big"
	"sort"
	"testing"

	"dioptra/api"
	"dioptra/soft"
)

// nearest rounds as the words say it: it holds v against the numbers on both sides of it, and needs nothing of how bits are made.
func nearest(d api.Dyadic) api.Bits {
	v := inUnits(d)
	size := new(big.Int).Abs(v)
	above := api.Bits(sort.Search(int(api.Inf), func(b int) bool { return unitsOf(api.Bits(b)).Cmp(size) >= 0 }))
	found := above
	if above > 0 {
		down := new(big.Int).Sub(size, unitsOf(above-1))
		up := new(big.Int).Sub(unitsOf(above), size)
		if side := down.Cmp(up); side < 0 || side == 0 && above%2 == 1 {
			found = above - 1
		}
	}
	if v.Sign() < 0 {
		found |= api.NegZero
	}
	return found
}

// flagsOf are the flags of d, rounded to b, as the words say them.
func flagsOf(d api.Dyadic, b api.Bits) api.Flags {
	f := math.Float64frombits(uint64(b))
	switch {
	case math.IsInf(f, 0):
		return api.Inexact | api.Overflow
	case unitsOf(b).Cmp(inUnits(d)) == 0:
		return 0
	case math.Abs(f) < 0x1p-1022:
		return api.Inexact | api.Underflow
	}
	return api.Inexact
}

func wantsRounded(t *testing.T, d api.Dyadic, b api.Bits, f api.Flags) {
	t.Helper()
	got, flags, e := soft.Round(d)
	if got != b || flags != f || e != api.OK {
		t.Errorf("%s: %x, flags %d, %v; wanted %x, flags %d", show(d), got, flags, e, b, f)
	}
}

func TestP4_1Round(t *testing.T) {
	for _, d := range samples() {
		b := nearest(d)
		wantsRounded(t, d, b, flagsOf(d, b))
	}
}

func TestP4_1RoundOfManyLengths(t *testing.T) {
	dice := dice(41)
	for i := range 600 {
		n := 1 + i%8
		if i%10 == 0 {
			n = 1 + int(dice.roll()%api.MaxLimbs)
		}
		d := api.Dyadic{M: dice.odd(n)}
		d.E = int(dice.roll()%2400) - 1250 - 32*n // so that most of them have a finite number near
		d.E = max(d.E, -most)
		b := nearest(d)
		wantsRounded(t, d, b, flagsOf(d, b))
	}
}

func TestP4_1RoundInEachPower(t *testing.T) {
	for top := -1080; top <= 1030; top++ {
		for _, m := range []int64{1, 1<<52 + 1, 1<<53 - 1, 1<<53 + 1, 1<<54 - 1, 1<<54 + 1, 1<<54 + 3, 1<<56 - 1, -(1<<55 - 1)} {
			d := number(m, top-big.NewInt(m).BitLen())
			want, _ := ratOf(d).Float64()
			b := api.Bits(math.Float64bits(want))
			wantsRounded(t, d, b, flagsOf(d, b))
		}
	}
}

func TestP4_1RoundAtTheEdges(t *testing.T) {
	const (
		exact = api.Flags(0)
		off   = api.Inexact
		under = api.Inexact | api.Underflow
		over  = api.Inexact | api.Overflow
	)
	for _, c := range []struct {
		m     int64
		e     int
		want  api.Bits
		flags api.Flags
	}{
		{0, 0, api.Zero, exact},
		{1, 0, api.One, exact},
		{3, -1, 0x3ff8000000000000, exact},
		{1<<53 - 1, 0, 0x433fffffffffffff, exact},
		{1<<53 + 1, 0, 0x4340000000000000, off}, // halfway, the even one below
		{1<<53 + 3, 0, 0x4340000000000002, off}, // halfway, the even one above
		{1<<54 - 1, 0, 0x4350000000000000, off}, // halfway, the one above with a digit more
		{1<<54 + 1, 0, 0x4350000000000000, off}, // just below halfway
		{1<<55 + 3, 0, 0x4360000000000000, off},
		{1<<55 + 5, 0, 0x4360000000000001, off}, // just above it
		{1<<55 + 11, 0, 0x4360000000000001, off},
		{1<<55 + 13, 0, 0x4360000000000002, off},
		{1<<61 + 255, 0, 0x43c0000000000000, off},
		{1<<61 + 257, 0, 0x43c0000000000001, off},
		{1, -1074, 1, exact},
		{3, -1074, 3, exact},
		{1<<52 - 1, -1074, leastNormal - 1, exact},
		{1, -1022, leastNormal, exact},
		{1<<52 + 1, -1074, leastNormal + 1, exact},
		{1, -1075, api.Zero, under}, // halfway between Zero and the least one
		{1<<54 + 1, -1129, 1, under},
		{1<<54 - 1, -1129, api.Zero, under},
		{3, -1075, 2, under},
		{5, -1075, 2, under},
		{7, -1075, 4, under},
		{1, -1076, api.Zero, under},
		{3, -1076, 1, under},
		{1<<53 - 3, -1075, leastNormal - 2, under},
		{1<<53 - 1, -1075, leastNormal, off}, // itself below 2^-1022, but not when rounded
		{1<<54 - 3, -1076, leastNormal - 1, under},
		{1<<54 - 1, -1076, leastNormal, off},
		{1<<53 + 1, -1075, leastNormal, off},
		{1<<53 + 3, -1075, leastNormal + 2, off},
		{1, -most, api.Zero, under},
		{1<<53 - 1, 971, greatest, exact},
		{1<<55 - 3, 969, greatest, off},      // just below halfway to 2^1024
		{1<<54 - 1, 970, api.Inf, over},      // halfway
		{1<<55 - 1, 969, api.Inf, over},      // just above it
		{1<<62 - 257, 962, greatest, off},    // the same with more digits
		{1<<62 - 255, 962, api.Inf, over},    // the same with more digits
		{1<<54 - 3, 970, greatest - 1, off},  // halfway, the even one below
		{1, 1023, 0x7fe0000000000000, exact}, // the greatest power of two
		{1, 1024, api.Inf, over},
		{1, most, api.Inf, over},
	} {
		wantsRounded(t, number(c.m, c.e), c.want, c.flags)
		if c.m != 0 {
			wantsRounded(t, number(-c.m, c.e), c.want|api.NegZero, c.flags)
		}
	}
}

// TestP4_1RoundByTheLastBit takes halfway cases to which as little as a right number can hold is added.
func TestP4_1RoundByTheLastBit(t *testing.T) {
	for _, c := range []struct {
		m                  int64
		e                  int
		below, even, above api.Bits
	}{
		{1<<53 + 1, -53, api.One, api.One, api.One + 1},
		{1<<53 + 3, -53, api.One + 1, api.One + 2, api.One + 2},
		{1<<54 - 1, 970, greatest, api.Inf, api.Inf},
		{1, -1075, api.Zero, api.Zero, 1},
		{1<<53 - 1, -1075, leastNormal - 1, leastNormal, leastNormal},
	} {
		half := number(c.m, c.e)
		wantsRounded(t, half, c.even, flagsOf(half, c.even))
		room := min(maxBits-big.NewInt(c.m).BitLen(), most+c.e)
		long := new(big.Int).Lsh(big.NewInt(c.m), uint(room))
		for more, want := range map[int64]api.Bits{-1: c.below, 1: c.above} {
			d, ok := rightOf(new(big.Int).Add(long, big.NewInt(more)), c.e-room)
			if !ok {
				t.Fatalf("%s is not right", show(d))
			}
			wantsRounded(t, d, want, flagsOf(d, want))
		}
	}
}

func TestP4_1Value(t *testing.T) {
	for _, b := range finites() {
		got, e := soft.Value(b)
		want, _ := rightOf(unitsOf(b), -most)
		if e != api.OK || !same(got, want) {
			t.Errorf("%x: %s, %v; wanted %s", b, show(got), e, show(want))
		}
	}
	for b, want := range map[api.Bits]api.Dyadic{
		api.Zero: {}, api.NegZero: {}, api.One: number(1, 0), 0xc008000000000000: number(-3, 0), 1: number(1, -1074), 6: number(3, -1073),
		leastNormal: number(1, -1022), api.NegZero | (leastNormal - 1): number(-(1<<52 - 1), -1074), greatest: number(1<<53-1, 971),
	} {
		if got, e := soft.Value(b); e != api.OK || !same(got, want) {
			t.Errorf("%x: %s, %v; wanted %s", b, show(got), e, show(want))
		}
	}
}

func TestP4_1Up(t *testing.T) {
	for _, b := range append(finites(), api.NegInf, api.Inf) {
		want := api.Bits(math.Float64bits(math.Nextafter(math.Float64frombits(uint64(b)), math.Inf(1))))
		if u := soft.Up(b); u != want {
			t.Errorf("%x: %x; wanted %x", b, u, want)
		}
	}
	for _, b := range noNumbers() {
		if u := soft.Up(b); u != b {
			t.Errorf("%x: %x", b, u)
		}
	}
}

func TestP4_1UpAtTheEdges(t *testing.T) {
	for b, want := range map[api.Bits]api.Bits{
		api.Inf: api.Inf, api.NegInf: greatest | api.NegZero, api.Zero: 1, api.NegZero: 1, 1: 2, api.NegZero + 1: api.NegZero, api.NegZero + 2: api.NegZero + 1,
		leastNormal - 1: leastNormal, leastNormal | api.NegZero: (leastNormal - 1) | api.NegZero, greatest: api.Inf, greatest | api.NegZero: (greatest - 1) | api.NegZero,
		api.One - 1: api.One, api.NaN: api.NaN, api.Inf + 1: api.Inf + 1, api.NegInf + 1: api.NegInf + 1, 1<<63 - 1: 1<<63 - 1, math.MaxUint64: math.MaxUint64,
	} {
		if u := soft.Up(b); u != want {
			t.Errorf("%x: %x; wanted %x", b, u, want)
		}
	}
}

// ratOf is d's value as a fraction.
func ratOf(d api.Dyadic) *big.Rat {
	return new(big.Rat).SetFrac(inUnits(d), powerOfTwo(most, 0))
}

// TestNearestIsRight guards the other tests: the library's own rounding must agree with theirs.
func TestNearestIsRight(t *testing.T) {
	list := samples()
	for i := 0; i < len(list); i += 7 {
		f, _ := ratOf(list[i]).Float64()
		if b := nearest(list[i]); uint64(b) != math.Float64bits(f) {
			t.Error(fmt.Sprintf("%s: %x; the library says %x", show(list[i]), b, math.Float64bits(f)))
		}
	}
}
