package compare_test

import (
	"math"
	"math/big"
	"testing"

	"dioptra/api"
	"dioptra/compare"
)

func wantsScaled(t *testing.T, a api.Bits, n int, want api.Bits, flags api.Flags) {
	t.Helper()
	if got, f := compare.Scale(a, n); got != want || f != flags {
		t.Errorf("%x times 2^%d: %x, flags %d; wanted %x, flags %d", a, n, got, f, want, flags)
	}
}

// nearest is the number that is nearest to v, which is no nought, and its flags, by the library's own exact numbers.
func nearest(v *big.Float) (api.Bits, api.Flags) {
	f, side := v.Float64()
	b := bitsOf(f)
	switch {
	case math.IsInf(f, 0):
		return b, over
	case side == big.Exact:
		return b, 0
	case math.Abs(f) < 0x1p-1022:
		return b, under
	}
	return b, off
}

// wantsScaledRight holds a times 2^n against the library's exact numbers, a being finite and no nought, for both signs.
func wantsScaledRight(t *testing.T, a api.Bits, n int) {
	t.Helper()
	want, flags := nearest(new(big.Float).SetMantExp(big.NewFloat(float(a)), n))
	wantsScaled(t, a, n, want, flags)
	wantsScaled(t, minus(a), n, minus(want), flags)
}

// anyPowers are powers of two of any size.
func anyPowers() []int {
	list := []int{0, math.MaxInt, math.MaxInt - 1, math.MinInt, math.MinInt + 1}
	for _, n := range []int{1, 2, 52, 53, 54, 1022, 1023, 1024, 1074, 1075, 1076, 2045, 2046, 2097, 2098, 2099, 4095, 4096, 4097, 16384, 32768, 32769, 1 << 20, math.MaxInt32, math.MaxInt32 + 1, 1 << 32, 1 << 62, math.MaxInt - 1074, math.MaxInt - 1023} {
		list = append(list, n, -n)
	}
	return list
}

func TestP8_2ScaleOfWhatStays(t *testing.T) {
	for _, n := range anyPowers() {
		for _, b := range append(noughts(), endless()...) {
			wantsScaled(t, b, n, b, 0)
		}
		for _, b := range noNumbers() {
			wantsScaled(t, b, n, api.NaN, 0)
		}
	}
}

func TestP8_2ScaleByAny(t *testing.T) {
	for _, a := range edges() {
		for _, n := range anyPowers() {
			if -1<<20 <= n && n <= 1<<20 { // the library's powers have 32 bits
				wantsScaledRight(t, a, n)
				continue
			}
			want, flags := api.Inf, over
			if n < 0 {
				want, flags = api.Zero, under
			}
			wantsScaled(t, a, n, want, flags)
			wantsScaled(t, minus(a), n, minus(want), flags)
		}
	}
}

// TestP8_2ScaleToTheEdges: to where numbers are subnormal, and to where they have no end.
func TestP8_2ScaleToTheEdges(t *testing.T) {
	for _, a := range sizes() {
		top := math.Ilogb(float(a))
		for _, e := range []int{-1078, -1077, -1076, -1075, -1074, -1073, -1072, -1060, -1040, -1026, -1025, -1024, -1023, -1022, -1021, 0, 1022, 1023, 1024, 1025} {
			wantsScaledRight(t, a, e-top)
		}
	}
}

func TestP8_2ScaleToEachPower(t *testing.T) {
	d := dice(81)
	for n := -2200; n <= 2200; n++ {
		for _, a := range []api.Bits{least, 3, leastNormal - 1, leastNormal, api.One, power(1) - 1, greatest, 1 + api.Bits(d.roll())%greatest} {
			wantsScaledRight(t, a, n)
		}
	}
}

func TestP8_2ScaleAtTheEdges(t *testing.T) {
	for _, c := range []struct {
		a     api.Bits
		n     int
		want  api.Bits
		flags api.Flags
	}{
		{api.One, 0, api.One, 0},
		{api.One, 1, power(1), 0},
		{0x4008000000000000, -2, 0x3fe8000000000000, 0}, // 3, 0.75
		{api.One, -1022, leastNormal, 0},
		{api.One, -1023, leastNormal / 2, 0},
		{api.One, -1074, least, 0},
		{api.One, -1075, api.Zero, under}, // halfway, the even one below
		{api.One, -1076, api.Zero, under},
		{api.One + 1, -1075, least, under},            // just above halfway
		{power(1) - 1, -1075, least, under},           // just below the least one
		{power(1) - 1, -1076, api.Zero, under},        // just below halfway
		{api.One + 1, -1074, least, under},            // just above the least one
		{api.One + 1<<51, -1074, 2, under},            // halfway, the even one above
		{api.One + 1<<51 - 1, -1074, least, under},    // just below halfway
		{api.One + 1<<51 + 1, -1074, 2, under},        // just above halfway
		{0x4004000000000000, -1074, 2, under},         // 2.5: halfway, the even one below
		{0x4004000000000001, -1074, 3, under},         // just above halfway
		{0x400c000000000000, -1074, 4, under},         // 3.5: halfway, the even one above
		{power(1) - 1, -1023, leastNormal, off},       // rounded to a number that is normal
		{power(1) - 2, -1023, leastNormal - 1, 0},     // just a subnormal one
		{power(1) - 3, -1023, leastNormal - 2, under}, // halfway below that
		{power(1) - 1, -1024, leastNormal / 2, under}, // rounded within subnormal ones
		{leastNormal, -1, leastNormal / 2, 0},
		{leastNormal + 1, -1, leastNormal / 2, under}, // halfway, the even one below
		{leastNormal - 1, -1, leastNormal / 2, under}, // halfway, the even one above
		{leastNormal - 1, 1, 2*leastNormal - 2, 0},
		{least, -1, api.Zero, under},
		{3, -1, 2, under}, // halfway, the even one above
		{5, -1, 2, under}, // halfway, the even one below
		{least, 1074, api.One, 0},
		{least, 2097, power(1023), 0},
		{least, 2098, api.Inf, over},
		{api.One, 1023, power(1023), 0},
		{api.One, 1024, api.Inf, over},
		{power(1) - 1, 1023, greatest, 0},
		{power(1) - 1, 1024, api.Inf, over},
		{greatest, 0, greatest, 0},
		{greatest, 1, api.Inf, over},
		{greatest, -1, power(1023) - 1, 0},
		{greatest, -2045, 2*leastNormal - 1, 0},
		{greatest, -2046, leastNormal, off}, // rounded to a number that is normal
		{greatest, -2097, 2, under},
		{greatest, -2098, least, under},
		{greatest, -2099, api.Zero, under},
		{greatest, math.MinInt, api.Zero, under},
		{least, math.MaxInt, api.Inf, over},
		{leastNormal, math.MinInt + 1, api.Zero, under},
		{leastNormal - 1, math.MaxInt - 1, api.Inf, over},
	} {
		wantsScaled(t, c.a, c.n, c.want, c.flags)
		wantsScaled(t, minus(c.a), c.n, minus(c.want), c.flags)
	}
}

func wantsInt(t *testing.T, n int64, want api.Bits, flags api.Flags) {
	t.Helper()
	if got, f := compare.Int(n); got != want || f != flags {
		t.Errorf("%d: %x, flags %d; wanted %x, flags %d", n, got, f, want, flags)
	}
}

func TestP8_2Int(t *testing.T) {
	for _, n := range wholes() {
		if n != 0 { // which the library tells with a sign
			want, flags := nearest(new(big.Float).SetInt64(n))
			wantsInt(t, n, want, flags)
		}
	}
}

func TestP8_2IntAtTheEdges(t *testing.T) {
	for _, c := range []struct {
		n     int64
		want  api.Bits
		flags api.Flags
	}{
		{0, api.Zero, 0},
		{1, api.One, 0},
		{-1, minus(api.One), 0},
		{3, 0x4008000000000000, 0},
		{1<<53 - 1, 0x433fffffffffffff, 0},
		{1 << 53, 0x4340000000000000, 0},
		{1<<53 + 1, 0x4340000000000000, off}, // halfway, the even one below
		{1<<53 + 2, 0x4340000000000001, 0},
		{1<<53 + 3, 0x4340000000000002, off}, // halfway, the even one above
		{1<<54 - 1, 0x4350000000000000, off}, // halfway, the one above with a digit more
		{1<<54 - 2, 0x434fffffffffffff, 0},
		{1<<54 + 1, 0x4350000000000000, off}, // just below halfway
		{1<<54 + 2, 0x4350000000000000, off},
		{1<<54 + 3, 0x4350000000000001, off}, // just above halfway
		{-(1<<53 + 1), 0xc340000000000000, off},
		{-(1<<53 + 3), 0xc340000000000002, off},
		{1 << 62, power(62), 0},
		{math.MaxInt64, power(63), off},
		{math.MaxInt64 - 511, power(63), off},
		{math.MaxInt64 - 512, power(63) - 1, off},
		{math.MaxInt64 - 1023, power(63) - 1, 0},
		{math.MinInt64, minus(power(63)), 0},
		{math.MinInt64 + 1, minus(power(63)), off},
		{math.MinInt64 + 1024, minus(power(63) - 1), 0},
	} {
		wantsInt(t, c.n, c.want, c.flags)
	}
}

func wantsTrunc(t *testing.T, a api.Bits, want int64) {
	t.Helper()
	if n, e := compare.Trunc(a); n != want || e != api.OK {
		t.Errorf("%x: %d, %v; wanted %d", a, n, e, want)
	}
}

func wantsNone(t *testing.T, a api.Bits) {
	t.Helper()
	if n, e := compare.Trunc(a); n != 0 || e != api.ErrNone {
		t.Errorf("%x: %d, %v", a, n, e)
	}
}

func wantsTruncRight(t *testing.T, a api.Bits) {
	t.Helper()
	v, _ := big.NewFloat(float(a)).Int(nil)
	if v.IsInt64() {
		wantsTrunc(t, a, v.Int64())
	} else {
		wantsNone(t, a)
	}
}

func TestP8_2Trunc(t *testing.T) {
	for _, a := range finites() {
		wantsTruncRight(t, a)
	}
}

func TestP8_2TruncInEachPower(t *testing.T) {
	d := dice(82)
	for power := range api.Bits(2047) {
		for range 8 {
			a := power<<52 | api.Bits(d.roll())%(1<<52)
			wantsTruncRight(t, a)
			wantsTruncRight(t, minus(a))
		}
	}
}

func TestP8_2TruncAtTheEdges(t *testing.T) {
	for a, want := range map[api.Bits]int64{
		api.Zero: 0, api.NegZero: 0, least: 0, leastNormal - 1: 0, leastNormal: 0, power(-1): 0, api.One - 1: 0,
		api.One: 1, api.One + 1: 1, power(1) - 1: 1, power(1): 2, 0x4004000000000000: 2, 0x4007ffffffffffff: 2, // 2.5, just below 3
		power(52) - 1: 1<<52 - 1, power(52): 1 << 52, power(53) - 1: 1<<53 - 1, power(53): 1 << 53, power(53) + 1: 1<<53 + 2,
		power(62): 1 << 62, power(63) - 1: 1<<63 - 1024,
	} {
		wantsTrunc(t, a, want)
		wantsTrunc(t, minus(a), -want)
	}
	wantsTrunc(t, minus(power(63)), math.MinInt64)
}

func TestP8_2TruncOfNone(t *testing.T) {
	for _, a := range []api.Bits{power(63), power(63) + 1, power(64) - 1, power(64), power(65), power(127), power(1023), greatest} {
		wantsNone(t, a)
	}
	for _, a := range []api.Bits{power(63) + 1, power(64) - 1, power(64), power(65), power(127), power(1023), greatest} {
		wantsNone(t, minus(a))
	}
	for _, a := range append(endless(), noNumbers()...) {
		wantsNone(t, a)
	}
}

func wantsExp(t *testing.T, a api.Bits, want int) {
	t.Helper()
	if k := compare.Exp(a); k != want {
		t.Errorf("power of %x: %d; wanted %d", a, k, want)
	}
}

func TestP8_2ExpOfPowers(t *testing.T) {
	for e := -1074; e <= 1023; e++ {
		for _, b := range bothSigns([]api.Bits{power(e)}) {
			wantsExp(t, b, e)
			if e > -1074 {
				wantsExp(t, b-1, e-1)
			}
			if e > -1074 && e < 1023 {
				wantsExp(t, b+1, e)
			}
		}
	}
	for _, b := range bothSigns([]api.Bits{greatest}) {
		wantsExp(t, b, 1023)
	}
}

// TestP8_2ExpByValues: 2^k is at most the size, and twice as much is more.
func TestP8_2ExpByValues(t *testing.T) {
	for _, a := range bothSigns(sizes()) {
		size := unitsOf(a)
		wantsExp(t, a, size.BitLen()-1-low) // its sign says nothing of its length
	}
}

func TestP8_2ExpAtTheEdges(t *testing.T) {
	for a, want := range map[api.Bits]int{
		0x3fe8000000000000: -1, api.One: 0, api.One - 1: -1, api.One + 1: 0, power(1): 1, 0x4008000000000000: 1, // 0.75, 3
		least: -1074, 2: -1073, 3: -1073, 4: -1072, leastNormal - 1: -1023, leastNormal / 2: -1023, leastNormal/2 - 1: -1024, leastNormal: -1022, greatest: 1023,
	} {
		wantsExp(t, a, want)
		wantsExp(t, minus(a), want)
	}
}

func TestP8_2ExpOfNone(t *testing.T) {
	for _, list := range [][]api.Bits{noughts(), endless(), noNumbers()} {
		for _, b := range list {
			wantsExp(t, b, 0)
		}
	}
}
