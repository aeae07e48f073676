package root_test

import (
	"testing"

	"dioptra/api"
	"dioptra/root"
)

const off = api.Inexact

func TestP7_2Sqrt(t *testing.T) {
	for _, a := range sizes() {
		want, flags := nearest(a)
		wantsRoot(t, a, want, flags)
	}
}

func TestP7_2SqrtOfSmallOnes(t *testing.T) {
	just := 0
	for n := range uint64(1000) {
		a := times2(n+1, 0)
		want, flags := nearest(a)
		wantsRoot(t, a, want, flags)
		if flags == 0 {
			just++
		}
	}
	if just != 31 {
		t.Errorf("%d of them are squares", just)
	}
}

// TestP7_2SqrtInEachPower: even and odd ones, whose roots have other digits.
func TestP7_2SqrtInEachPower(t *testing.T) {
	d := dice(72)
	for power := range api.Bits(2047) {
		a := power<<52 | 1 + api.Bits(d.roll())%(1<<52-1)
		want, flags := nearest(a)
		wantsRoot(t, a, want, flags)
	}
}

func TestP7_2AtTheEdges(t *testing.T) {
	root2 := api.Bits(0x3ff6a09e667f3bcd)
	half := func(e int) api.Bits { return api.Bits(e) << 52 } // what is added to a number's bits to have it times 2^e
	for _, c := range []struct {
		a, want api.Bits
		flags   api.Flags
	}{
		{api.One, api.One, 0},
		{power(1), root2, off},
		{times2(3, 0), 0x3ffbb67ae8584caa, off},
		{power(2), power(1), 0},
		{times2(9, 0), times2(3, 0), 0},
		{times2(9, -2), times2(3, -1), 0},
		{power(-1), root2 - half(1), off},
		{power(-2), power(-1), 0},
		{0x3fb999999999999a, 0x3fd43d136248490f, off}, // nearest to a tenth
		{api.One - 1, api.One - 1, off},               // just below halfway between One and the number below
		{api.One - 2, api.One - 1, off},               // just below a number
		{api.One - 3, api.One - 2, off},               // just below halfway
		{api.One + 1, api.One, off},                   // just below halfway
		{api.One + 2, api.One + 1, off},               // just below a number
		{api.One + 3, api.One + 1, off},               // just below halfway
		{power(2) - 1, power(1) - 1, off},             // just below halfway, between numbers that lie half as far apart as those above
		{power(2) + 1, power(1), off},
		{least, power(-537), 0},
		{2, root2 - half(537), off},
		{4, power(-536), 0},
		{9, times2(3, -537), 0},
		{leastNormal - 1, power(-511) - 1, off},
		{leastNormal, power(-511), 0},
		{leastNormal + 1, power(-511), off},
		{2*leastNormal - 1, root2 - half(511) - 1, off},
		{2 * leastNormal, root2 - half(511), off},
		{power(1022), power(511), 0},
		{power(1023), root2 + half(511), off},
		{greatest, power(512) - 1, off},
		{greatest - 1, power(512) - 1, off}, // just below a number
	} {
		wantsRoot(t, c.a, c.want, c.flags)
	}
}

// TestP7_2PowersOfTwo: the even ones have roots, and those of the odd ones have the digits of the root of 2.
func TestP7_2PowersOfTwo(t *testing.T) {
	for e := -537; e <= 511; e++ {
		wantsRoot(t, power(2*e), power(e), 0)
		wantsRoot(t, power(2*e+1), 0x3ff6a09e667f3bcd-api.One+power(e), off)
	}
}

// TestP7_2Squares: they have their roots without a flag, and the numbers next to them have one, unless they are squares, too.
func TestP7_2Squares(t *testing.T) {
	d := dice(73)
	for digits := 1; digits <= 26; digits++ {
		for range 40 {
			m := 1<<(digits-1) | d.roll()>>(65-digits)
			for e := -537; e <= 485; e += 73 {
				a := times2(m*m, 2*e)
				wantsRoot(t, a, times2(m, e), 0)
				wantsFlagged(t, a-1)
				wantsFlagged(t, a+1)
			}
		}
	}
}

// wantsFlagged looks after the flag of a number that is next to a square.
func wantsFlagged(t *testing.T, a api.Bits) {
	t.Helper()
	want := api.Flags(0)
	got, flags := root.Sqrt(a)
	if squared(got, a) != 0 {
		want = off
	}
	if flags != want {
		t.Errorf("root of %x: %x, flags %d", a, got, flags)
	}
}

// TestP7_2BesideHalfway: of roots that lie just below halfway the number below is told, of those just above the number above.
func TestP7_2BesideHalfway(t *testing.T) {
	below, above := nearHalves()
	for _, a := range below {
		if r, _ := root.Sqrt(a); squared(r, a) >= 0 {
			t.Errorf("root of %x: %x, which is too great", a, r)
		}
	}
	for _, a := range above {
		if r, _ := root.Sqrt(a); squared(r, a) <= 0 {
			t.Errorf("root of %x: %x, which is too small", a, r)
		}
	}
}
