package vector_test

import (
	"slices"
	"testing"

	"dioptra/api"
	"dioptra/vector"
)

func wantsDot(t *testing.T, x, y []api.Bits, want api.Bits) {
	t.Helper()
	if s, err := vector.Dot(x, y); s != want || err != api.OK {
		t.Errorf("dot of %x and %x: %x, %v; wanted %x", x, y, s, err, want)
	}
}

func wantsAxpy(t *testing.T, a api.Bits, x, y, want []api.Bits) {
	t.Helper()
	if l, err := vector.Axpy(a, x, y); !slices.Equal(l, want) || err != api.OK {
		t.Errorf("%x and %x times %x: %x, %v; wanted %x", y, a, x, l, err, want)
	}
}

func wantsTimes(t *testing.T, a api.Bits, x, want []api.Bits) {
	t.Helper()
	if l, err := vector.Times(a, x); !slices.Equal(l, want) || err != api.OK {
		t.Errorf("%x times %x: %x, %v; wanted %x", a, x, l, err, want)
	}
}

func wantsBiggest(t *testing.T, x []api.Bits, want api.Bits) {
	t.Helper()
	if b := vector.Biggest(x); b != want {
		t.Errorf("greatest of %x: %x; wanted %x", x, b, want)
	}
}

func wantsNorm(t *testing.T, x []api.Bits, want api.Bits) {
	t.Helper()
	if n, err := vector.Norm(x); n != want || err != api.OK {
		t.Errorf("norm of %x: %x, %v; wanted %x", x, n, err, want)
	}
}

func wantsFinite(t *testing.T, x []api.Bits, want bool) {
	t.Helper()
	if f := vector.Finite(x); f != want {
		t.Errorf("%x are finite: %v", x, f)
	}
}

// wantsNoPair looks after two lists that are too long, or of unlike lengths.
func wantsNoPair(t *testing.T, x, y []api.Bits) {
	t.Helper()
	if s, err := vector.Dot(x, y); s != 0 || err != api.ErrShape {
		t.Errorf("dot of %d numbers and %d: %x, %v", len(x), len(y), s, err)
	}
	for _, a := range []api.Bits{api.Zero, api.One, api.NaN} {
		if l, err := vector.Axpy(a, x, y); len(l) != 0 || err != api.ErrShape {
			t.Errorf("%d numbers and %x times %d: %x, %v", len(y), a, len(x), l, err)
		}
	}
}

// ones are n times One.
func ones(n int) []api.Bits {
	return slices.Repeat([]api.Bits{api.One}, n)
}

func TestP9_1UnlikeLengths(t *testing.T) {
	for _, n := range []int{0, 1, 2, 3, 63, 64, 65, 66, 1000} {
		for _, m := range []int{0, 1, 2, 3, 63, 64, 65, 66, 1000} {
			if n != m {
				wantsNoPair(t, ones(n), ones(m))
			}
		}
	}
	wantsNoPair(t, nil, []api.Bits{api.NaN})
	wantsNoPair(t, []api.Bits{api.Inf}, nil)
}

func TestP9_1TooLong(t *testing.T) {
	for _, n := range []int{api.MaxLong + 1, api.MaxLong + 2, 2 * api.MaxLong, 1000, 1 << 16} {
		for _, b := range []api.Bits{api.Zero, api.One, api.Inf, api.NaN + 3} {
			x := slices.Repeat([]api.Bits{b}, n)
			wantsNoPair(t, x, x)
			if l, err := vector.Times(api.One, x); len(l) != 0 || err != api.ErrShape {
				t.Errorf("times %d of %x: %x, %v", n, b, l, err)
			}
		}
	}
}

func TestP9_1JustLongEnough(t *testing.T) {
	x := ones(api.MaxLong)
	wantsDot(t, x, x, power(6))
	wantsAxpy(t, two, x, x, slices.Repeat([]api.Bits{three}, api.MaxLong))
	wantsTimes(t, five, x, slices.Repeat([]api.Bits{five}, api.MaxLong))
}

func TestP9_1Nothing(t *testing.T) {
	for _, x := range [][]api.Bits{nil, {}, ones(3)[:0]} {
		for _, y := range [][]api.Bits{nil, {}, ones(3)[3:]} {
			wantsDot(t, x, y, api.Zero)
			for _, a := range all() {
				wantsAxpy(t, a, x, y, nil)
				wantsTimes(t, a, x, nil)
			}
		}
	}
}

// TestP9_1Noughts: a sum begins at Zero, and so no NegZero comes of it; what is done to each number has no such beginning.
func TestP9_1Noughts(t *testing.T) {
	wantsDot(t, []api.Bits{api.NegZero}, []api.Bits{api.One}, api.Zero)
	wantsDot(t, []api.Bits{api.NegZero, api.NegZero}, []api.Bits{three, four}, api.Zero)
	wantsDot(t, []api.Bits{minus(least)}, []api.Bits{least}, api.Zero)
	x := []api.Bits{api.Zero, api.NegZero, api.Zero, api.NegZero}
	y := []api.Bits{api.Zero, api.Zero, api.NegZero, api.NegZero}
	wantsTimes(t, three, x, x)
	wantsTimes(t, minus(three), x, []api.Bits{api.NegZero, api.Zero, api.NegZero, api.Zero})
	wantsTimes(t, api.NegZero, []api.Bits{three, minus(three), greatest, minus(least)}, []api.Bits{api.NegZero, api.Zero, api.NegZero, api.Zero})
	wantsAxpy(t, api.One, x, y, []api.Bits{api.Zero, api.Zero, api.Zero, api.NegZero})
	wantsAxpy(t, minus(api.One), x, y, []api.Bits{api.Zero, api.Zero, api.NegZero, api.Zero})
}

func TestP9_1WithoutAnEnd(t *testing.T) {
	wantsDot(t, []api.Bits{api.Inf, api.One}, []api.Bits{api.One, greatest}, api.Inf)
	wantsDot(t, []api.Bits{api.NegInf, api.One}, []api.Bits{three, api.Inf}, api.NaN)
	wantsDot(t, []api.Bits{api.NegInf, api.One}, []api.Bits{three, api.NegInf}, api.NegInf)
	wantsDot(t, []api.Bits{api.One, api.NegInf}, []api.Bits{three, api.Zero}, api.NaN)
	wantsDot(t, []api.Bits{greatest, greatest}, []api.Bits{greatest, minus(greatest)}, api.NaN) // Inf less Inf
	wantsAxpy(t, api.Inf, []api.Bits{api.One, api.Zero, minus(api.One), least}, []api.Bits{api.One, api.One, api.Inf, minus(greatest)}, []api.Bits{api.Inf, api.NaN, api.NaN, api.Inf})
	wantsAxpy(t, greatest, []api.Bits{two, two}, []api.Bits{api.NegInf, minus(greatest)}, []api.Bits{api.NaN, api.Inf})
	wantsTimes(t, api.NegInf, []api.Bits{least, minus(greatest), api.Zero, api.NegInf}, []api.Bits{api.NegInf, api.Inf, api.NaN, api.Inf})
	wantsTimes(t, greatest, []api.Bits{api.One, two, minus(two)}, []api.Bits{greatest, api.Inf, api.NegInf})
}

// TestP9_1NoNumber: whichever comes in, at whichever place, NaN comes out there.
func TestP9_1NoNumber(t *testing.T) {
	y := []api.Bits{three, api.One, minus(two), least, four}
	twice := []api.Bits{0x4018000000000000, two, minus(four), 2, power(3)}
	nothing := slices.Repeat([]api.Bits{api.NaN}, len(y))
	for _, none := range noNumbers() {
		for _, place := range []int{0, 2, 4} {
			x, product, total := slices.Clone(y), slices.Clone(y), slices.Clone(twice)
			x[place], product[place], total[place] = none, api.NaN, api.NaN
			wantsDot(t, x, y, api.NaN)
			wantsDot(t, y, x, api.NaN)
			wantsTimes(t, api.One, x, product)
			wantsAxpy(t, api.One, x, y, total)
			wantsAxpy(t, api.One, y, x, total)
		}
		wantsTimes(t, none, y, nothing)
		wantsAxpy(t, none, y, y, nothing)
	}
}

func TestP9_2Finite(t *testing.T) {
	wantsFinite(t, nil, true)
	wantsFinite(t, []api.Bits{}, true)
	wantsFinite(t, finites(), true)
	for _, b := range append(noNumbers(), api.Inf, api.NegInf) {
		wantsFinite(t, []api.Bits{b}, false)
		for _, place := range []int{0, 1, 31, 63} {
			x := ones(64)
			x[place] = b
			wantsFinite(t, x, false)
		}
	}
	for _, b := range finites() {
		wantsFinite(t, []api.Bits{b}, true)
	}
}

func TestP9_2BiggestOfNoughts(t *testing.T) {
	for _, x := range [][]api.Bits{nil, {}, {api.Zero}, {api.NegZero}, {api.NegZero, api.NegZero}, {api.NegZero, api.Zero}, {api.Zero, api.NegZero}} {
		wantsBiggest(t, x, api.Zero)
		wantsNorm(t, x, api.Zero)
	}
	wantsBiggest(t, slices.Repeat([]api.Bits{api.NegZero}, 64), api.Zero)
	wantsNorm(t, slices.Repeat([]api.Bits{api.NegZero}, 64), api.Zero)
}

// TestP9_2BiggestAnywhere: at each place, with each sign.
func TestP9_2BiggestAnywhere(t *testing.T) {
	d := dice(91)
	for i, b := range append(sizes(), api.Inf) {
		smaller := finites()[:2+2*i]
		for place := range 7 {
			x := d.mixed(7, smaller)
			x[place] = b
			wantsBiggest(t, x, b)
			x[place] = minus(b)
			wantsBiggest(t, x, b)
		}
	}
	wantsBiggest(t, []api.Bits{minus(two), api.One}, two)
}

func TestP9_2BiggestIsNoNumber(t *testing.T) {
	for _, none := range noNumbers() {
		wantsBiggest(t, []api.Bits{none}, api.NaN)
		wantsNorm(t, []api.Bits{none}, api.NaN)
		for _, b := range []api.Bits{api.NegZero, api.One, greatest, api.Inf, api.NegInf, api.NaN} {
			for _, place := range []int{0, 1, 3, 5, 6} {
				x := slices.Repeat([]api.Bits{b}, 7)
				x[place] = none
				wantsBiggest(t, x, api.NaN)
				wantsNorm(t, x, api.NaN)
			}
		}
	}
}

// TestP9_2AnyLength: Finite and Biggest have no error to tell, and so no list is too long for them.
func TestP9_2AnyLength(t *testing.T) {
	for _, n := range []int{64, 65, 1000, 1 << 16} {
		x := ones(n)
		x[n-1] = minus(three)
		wantsBiggest(t, x, three)
		wantsFinite(t, x, true)
		x[n-1] = api.NegInf
		wantsBiggest(t, x, api.Inf)
		wantsFinite(t, x, false)
		x[n/2] = api.NegInf + 1
		wantsBiggest(t, x, api.NaN)
		wantsFinite(t, x, false)
	}
}

func TestP9_2NormTooLong(t *testing.T) {
	for _, b := range []api.Bits{api.Zero, api.One, api.Inf, api.NaN} {
		for _, n := range []int{65, 66, 1000} {
			if got, err := vector.Norm(slices.Repeat([]api.Bits{b}, n)); got != 0 || err != api.ErrShape {
				t.Errorf("norm of %d times %x: %x, %v", n, b, got, err)
			}
		}
	}
	wantsNorm(t, ones(64), power(3))
	wantsNorm(t, make([]api.Bits, 64), api.Zero)
}

func TestP9_2NormWithoutAnEnd(t *testing.T) {
	for _, inf := range []api.Bits{api.Inf, api.NegInf} {
		wantsNorm(t, []api.Bits{inf}, api.Inf)
		wantsNorm(t, []api.Bits{inf, inf}, api.Inf)
		wantsNorm(t, []api.Bits{inf, minus(inf)}, api.Inf)
		wantsNorm(t, []api.Bits{api.NegZero, greatest, inf, three}, api.Inf)
	}
}
