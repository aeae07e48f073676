package root_test

import (
	"math"
	"slices"
	"testing"

	"dioptra/api"
	"dioptra/root"
	"dioptra/times"
)

// says is the machine's own number by its bits, whatever no number it makes.
func says(f float64) api.Bits {
	if math.IsNaN(f) {
		return api.NaN
	}
	return api.Bits(math.Float64bits(f))
}

func wantsGosOwn(t *testing.T, a api.Bits) {
	t.Helper()
	if r, _ := root.Sqrt(a); r != says(math.Sqrt(float(a))) {
		t.Errorf("root of %x: %x; wanted %x", a, r, says(math.Sqrt(float(a))))
	}
}

func TestP7_3GosOwn(t *testing.T) {
	for _, a := range all() {
		wantsGosOwn(t, a)
	}
}

func TestP7_3GosOwnOfAnyBits(t *testing.T) {
	d := dice(76)
	for range 60000 {
		wantsGosOwn(t, api.Bits(d.roll()))
	}
}

func TestP7_3GosOwnInEachPower(t *testing.T) {
	d := dice(77)
	for power := range api.Bits(2048) {
		for range 30 {
			wantsGosOwn(t, power<<52|api.Bits(d.roll())%(1<<52))
		}
	}
}

// TestP7_3GosOwnInARow: numbers that come one behind the other, from some edges on and up to them.
func TestP7_3GosOwnInARow(t *testing.T) {
	for _, b := range []api.Bits{1000, leastNormal, api.One, power(1), power(2), times2(9, 0), power(-1), power(-2), greatest - 1000, power(1022), power(1023)} {
		for step := range api.Bits(1000) {
			wantsGosOwn(t, b+step)
			wantsGosOwn(t, b-step)
		}
	}
}

// wantsRootOfSquare looks after both signs of b, whose sign is 0.
func wantsRootOfSquare(t *testing.T, b api.Bits) {
	t.Helper()
	for _, signed := range []api.Bits{b, minus(b)} {
		square, _ := times.Square(signed)
		if r, _ := root.Sqrt(square); r != b {
			t.Errorf("%x squared is %x, whose root is %x", signed, square, r)
		}
	}
}

// TestP7_4RootOfSquare: numbers are neither very great nor very small here, if they are 0, or from 2^-511 on and below 2^512, so that their squares are normal.
func TestP7_4RootOfSquare(t *testing.T) {
	wantsRootOfSquare(t, api.Zero)
	d := dice(78)
	for e := -511; e < 512; e++ {
		for _, b := range []api.Bits{power(e), power(e) + 1, power(e) + 2, power(e+1) - 2, power(e+1) - 1} {
			wantsRootOfSquare(t, b)
		}
		for range 40 {
			wantsRootOfSquare(t, power(e)+api.Bits(d.roll())%(1<<52))
		}
	}
	for step := range api.Bits(2000) {
		wantsRootOfSquare(t, api.One+step)
		wantsRootOfSquare(t, 0x3ff6a09e667f3bcd-1000+step) // whose squares lie about 2, from where numbers lie twice as far apart
	}
}

// TestP7_4FlagOfSquare: where a square is just the product, its root raises nothing.
func TestP7_4FlagOfSquare(t *testing.T) {
	d := dice(79)
	for e := -485; e < 460; e++ {
		b := times2(1+d.roll()>>38, e)
		square, flags := times.Square(b)
		if flags != 0 {
			t.Fatalf("%x squared has flags %d", b, flags)
		}
		wantsRoot(t, square, b, 0)
	}
}

func wantsOrder(t *testing.T, less, more api.Bits) {
	t.Helper()
	r, _ := root.Sqrt(less)
	s, _ := root.Sqrt(more)
	if !(float(r) <= float(s)) {
		t.Errorf("roots of %x and %x: %x and %x", less, more, r, s)
	}
}

func TestP7_5NoLess(t *testing.T) {
	list := append(sizes(), api.Zero, api.Inf)
	slices.Sort(list) // the bits of numbers above 0 are ordered as they are
	for i, b := range list[1:] {
		wantsOrder(t, list[i], b)
	}
	wantsOrder(t, api.NegZero, least)
	wantsOrder(t, greatest, api.Inf)
}

func TestP7_5NoLessNext(t *testing.T) {
	for _, b := range sizes() {
		wantsOrder(t, b-1, b)
		wantsOrder(t, b, b+1)
	}
}

func TestP7_5NoLessOfAny(t *testing.T) {
	d := dice(80)
	for range 5000 {
		a, b := api.Bits(d.roll())%api.Inf, api.Bits(d.roll())%api.Inf
		wantsOrder(t, min(a, b), max(a, b))
	}
}

// wantsBetween looks after the squares of halfway to the numbers below and above the root of a, a being finite and above 0.
func wantsBetween(t *testing.T, a api.Bits) {
	t.Helper()
	if r, _ := root.Sqrt(a); halfway(r-1, a) > 0 || halfway(r, a) < 0 {
		t.Errorf("root of %x: %x, which is not the nearest", a, r)
	}
}

func TestP7_6BetweenHalfways(t *testing.T) {
	for _, a := range sizes() {
		wantsBetween(t, a)
	}
}

func TestP7_6BetweenHalfwaysInEachPower(t *testing.T) {
	d := dice(81)
	for power := range api.Bits(2047) {
		for _, fraction := range []api.Bits{1, 2, api.Bits(d.roll()) % (1 << 52), api.Bits(d.roll()) % (1 << 52), 1<<52 - 2, 1<<52 - 1} {
			wantsBetween(t, power<<52+fraction)
		}
	}
}
