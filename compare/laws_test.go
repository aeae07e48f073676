package compare_test

import (
	"math"
	"testing"

	"dioptra/api"
	"dioptra/compare"
)

// wantsGosOrder holds what is said of a and b against the machine's own numbers.
func wantsGosOrder(t *testing.T, a, b api.Bits) {
	t.Helper()
	x, y := float(a), float(b)
	switch {
	case x < y:
		wantsSide(t, a, b, -1)
	case x > y:
		wantsSide(t, a, b, 1)
	case x == y:
		wantsSide(t, a, b, 0)
	default:
		wantsNoOrder(t, a, b)
	}
}

func TestP8_3GosOrder(t *testing.T) {
	for _, a := range few() {
		for _, b := range few() {
			wantsGosOrder(t, a, b)
		}
	}
}

func TestP8_3GosOrderOfAnyBits(t *testing.T) {
	d := dice(83)
	for range 60000 {
		a, b := api.Bits(d.roll()), api.Bits(d.roll())
		wantsGosOrder(t, a, b)
		wantsGosOrder(t, a, a&^0xff|b&0xff) // near to each other
	}
}

func TestP8_3GosAbs(t *testing.T) {
	for _, b := range all() {
		if got := compare.Abs(b); got != bitsOf(math.Abs(float(b))) {
			t.Errorf("%x without its sign: %x", b, got)
		}
	}
}

// wantsGosScale holds a times 2^n against the library's own, whatever no number that makes.
func wantsGosScale(t *testing.T, a api.Bits, n int) {
	t.Helper()
	want := bitsOf(math.Ldexp(float(a), n))
	if math.IsNaN(float(a)) {
		want = api.NaN
	}
	if got, _ := compare.Scale(a, n); got != want {
		t.Errorf("%x times 2^%d: %x; wanted %x", a, n, got, want)
	}
}

func TestP8_3GosScale(t *testing.T) {
	for _, a := range all() {
		for _, n := range anyPowers() {
			if -1<<62 <= n && n <= 1<<62 { // near the ends of int the library's own power wraps round
				wantsGosScale(t, a, n)
			}
		}
	}
}

func TestP8_3GosScaleOfAnyBits(t *testing.T) {
	d := dice(84)
	for i := range 60000 {
		a := api.Bits(d.roll())
		wantsGosScale(t, a, int(d.roll()%4400)-2200)
		wantsGosScale(t, a, -1074+i%60-int(a>>52)&2047+1023) // to subnormal ones and those about them
	}
}

func TestP8_3GosInt(t *testing.T) {
	for _, n := range wholes() {
		if got, _ := compare.Int(n); got != bitsOf(float64(n)) {
			t.Errorf("%d: %x; wanted %x", n, got, bitsOf(float64(n)))
		}
	}
	d := dice(85)
	for range 60000 {
		n := int64(d.roll())
		if got, _ := compare.Int(n); got != bitsOf(float64(n)) {
			t.Errorf("%d: %x; wanted %x", n, got, bitsOf(float64(n)))
		}
	}
}

// TestP8_3GosTrunc: Go says what a conversion is just where it fits.
func TestP8_3GosTrunc(t *testing.T) {
	for _, a := range finites() {
		if f := float(a); -0x1p63 <= f && f < 0x1p63 {
			wantsTrunc(t, a, int64(f))
		}
	}
	d := dice(86)
	for i := range 60000 {
		a := power(i%63) + api.Bits(d.roll())%(1<<52)
		wantsTrunc(t, a, int64(float(a)))
		wantsTrunc(t, minus(a), int64(-float(a)))
	}
}

func TestP8_3GosExp(t *testing.T) {
	for _, a := range bothSigns(sizes()) {
		wantsExp(t, a, math.Ilogb(float(a)))
	}
	d := dice(87)
	for range 60000 {
		a := api.Bits(d.roll())
		if f := float(a); f != 0 && f-f == 0 {
			wantsExp(t, a, math.Ilogb(f))
		}
	}
}

// wantsBack looks after both signs of n, which has 53 bits at most.
func wantsBack(t *testing.T, n int64) {
	t.Helper()
	for _, n := range []int64{n, -n} {
		b, flags := compare.Int(n)
		if flags != 0 {
			t.Errorf("%d: flags %d", n, flags)
		}
		wantsTrunc(t, b, n)
	}
}

func TestP8_4TruncOfInt(t *testing.T) {
	d := dice(88)
	for digits := range 54 {
		last := int64(1)<<digits - 1
		for _, n := range []int64{0, last, last - 1, last/2 + 1, last/2 + 2} {
			if 0 <= n && n <= last {
				wantsBack(t, n)
			}
		}
		for range 300 {
			wantsBack(t, int64(d.roll())&last)
		}
	}
	for n := range int64(3000) {
		wantsBack(t, n)
		wantsBack(t, 1<<53-1-n)
	}
}

// TestP8_4TruncOfLongInt: what has more bits comes back, if the last ones are 0.
func TestP8_4TruncOfLongInt(t *testing.T) {
	d := dice(89)
	for e := 1; e <= 10; e++ {
		for range 300 {
			wantsBack(t, int64(d.roll())&(1<<53-1)<<e)
		}
	}
	wantsTrunc(t, minus(power(63)), math.MinInt64)
}

// wantsUpAndDown tells whether a could be scaled by n and back without Underflow and Overflow, and if so, looks after what came of it.
func wantsUpAndDown(t *testing.T, a api.Bits, n int) bool {
	t.Helper()
	up, first := compare.Scale(a, n)
	down, second := compare.Scale(up, -n)
	if (first|second)&(api.Underflow|api.Overflow) != 0 {
		return false
	}
	if down != a || first|second != 0 {
		t.Errorf("%x times 2^%d: %x, and back: %x, flags %d and %d", a, n, up, down, first, second)
	}
	return true
}

func TestP8_5UpAndDown(t *testing.T) {
	done := 0
	for _, a := range ordered() {
		for _, n := range anyPowers() {
			if n >= 0 && wantsUpAndDown(t, a, n) {
				done++
			}
		}
	}
	if done < 10000 {
		t.Errorf("%d without Underflow and Overflow", done)
	}
}

// TestP8_5UpToTheEnd: nothing is raised on the way up before numbers end, and Overflow from there on.
func TestP8_5UpToTheEnd(t *testing.T) {
	for _, a := range bothSigns(sizes()) {
		most := 1023 - math.Ilogb(float(a))
		for _, n := range []int{0, 1, most / 3, most - 1, most} {
			if 0 <= n && n <= most && !wantsUpAndDown(t, a, n) {
				t.Errorf("%x times 2^%d, or back, is Underflow or Overflow", a, n)
			}
		}
		if wantsUpAndDown(t, a, most+1) {
			t.Errorf("%x times 2^%d is not Overflow", a, most+1)
		}
	}
}

// TestP8_5DownAndUp: down to where numbers are subnormal all comes back. From there on it does, if nothing at all is raised: a number that is rounded up to 2^-1022 is Inexact alone.
func TestP8_5DownAndUp(t *testing.T) {
	for _, a := range bothSigns(sizes()) {
		for n := 0; n <= math.Ilogb(float(a))+1022; n += 1 + n/2 {
			if !wantsUpAndDown(t, a, -n) {
				t.Errorf("%x times 2^-%d, or back, is Underflow or Overflow", a, n)
			}
		}
		for n := -1100; n < 0; n++ {
			down, flags := compare.Scale(a, n)
			if flags == 0 {
				wantsScaled(t, down, -n, a, 0)
			}
		}
	}
}
