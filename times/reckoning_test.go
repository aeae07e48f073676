package times_test

import (
	"testing"

	"dioptra/api"
	"dioptra/times"
)

const (
	off   = api.Inexact
	over  = api.Inexact | api.Overflow
	under = api.Inexact | api.Underflow
)

func TestP6_1Mul(t *testing.T) {
	for _, p := range products() {
		want, flags := nearest(product(p.a, p.b))
		wantsProduct(t, p.a, p.b, want, flags)
	}
}

func TestP6_2Div(t *testing.T) {
	for _, p := range quotients() {
		want, flags := nearest(quotient(p.a, p.b))
		wantsQuotient(t, p.a, p.b, want, flags)
	}
}

// TestP6_2DivOfSmallOnes: some of their quotients end, and others never do.
func TestP6_2DivOfSmallOnes(t *testing.T) {
	ends := 0
	for a := range uint64(40) {
		for b := range uint64(40) {
			p := pair{times2(a+1, 0), times2(b+1, 0)}
			want, flags := nearest(quotient(p.a, p.b))
			wantsQuotient(t, p.a, p.b, want, flags)
			low := pair{times2(a+1, -1074), times2(b+1, -1074)}
			wantsQuotient(t, low.a, low.b, want, flags)
			if flags == 0 {
				ends++
			}
		}
	}
	if ends < 100 || ends > 800 {
		t.Errorf("%d of them end", ends)
	}
}

// TestP6_2BackFromProducts: what is a product without a flag is divided again without one.
func TestP6_2BackFromProducts(t *testing.T) {
	d := dice(63)
	for i := range 300 {
		a, b := d.roll()>>(38+i%20), d.roll()>>(38+i/15)
		x, y := times2(a+1, -300), times2(b+1, 40)
		both, flags := times.Mul(x, y)
		if flags != 0 {
			t.Errorf("%x times %x: %x, flags %d", x, y, both, flags)
		}
		wantsQuotient(t, both, y, x, 0)
		wantsQuotient(t, both, x, y, 0)
	}
}

type line struct {
	a, b, want api.Bits
	flags      api.Flags
}

// turn are the four lines of one, with both signs of its numbers.
func (l line) turn() []line {
	return []line{l, {minus(l.a), l.b, minus(l.want), l.flags}, {l.a, minus(l.b), minus(l.want), l.flags}, {minus(l.a), minus(l.b), l.want, l.flags}}
}

func TestP6_1AtTheEdges(t *testing.T) {
	half, three := power(-1), times2(3, 0)
	for _, c := range []line{
		{api.One, api.One, api.One, 0},
		{three, three, times2(9, 0), 0},
		{three, api.One + 1, times2(3, 0) + 2, off},                                 // halfway, the even one above
		{times2(5, 0), api.One + 1, times2(5, 0) + 1, off},                          // just above a number
		{times2(3<<50|1, 0), three, times2(9<<50|4, 0), off},                        // halfway, the even one above
		{times2(1<<27+1, 0), times2(1<<26+1, 0), times2(1<<53+1<<27+1<<26, 0), off}, // halfway, the even one below
		{api.One + 1, api.One + 1, api.One + 2, off},                                // 2^-104 above a number
		{api.One - 1, api.One + 1, api.One, off},                                    // just below halfway
		{power(1) - 1, power(1) - 1, power(2) - 2, off},                             // just above a number
		{least, api.One, least, 0},
		{least, half, api.Zero, under},     // halfway between Zero and the least
		{least, half + 1, least, under},    // just above
		{least, half - 1, api.Zero, under}, // just below
		{3, half, 2, under},                // halfway
		{5, half, 2, under},                // halfway
		{least, least, api.Zero, under},    // far below the least
		{leastNormal - 1, leastNormal - 1, api.Zero, under},
		{power(-537), power(-537), least, 0},            // the least itself
		{power(-538), power(-537), api.Zero, under},     // halfway
		{power(-538) + 1, power(-537), least, under},    // just above
		{power(-538), power(-537) - 1, api.Zero, under}, // just below
		{leastNormal - 1, api.One, leastNormal - 1, 0},
		{leastNormal - 1, half, leastNormal / 2, under}, // halfway, the even one above
		{leastNormal - 1, power(1), 2*leastNormal - 2, 0},
		{leastNormal - 1, api.One + 1, leastNormal, off}, // 2^-1126 below 2^-1022
		{leastNormal, half, leastNormal / 2, 0},
		{leastNormal, api.One - 1, leastNormal, off}, // halfway below 2^-1022; what is rounded is no more below it
		{leastNormal, api.One - 2, leastNormal - 1, 0},
		{leastNormal, api.One - 3, leastNormal - 2, under},     // halfway
		{leastNormal + 1, api.One - 1, leastNormal, off},       // just below halfway
		{leastNormal + 1, api.One - 2, leastNormal, off},       // just below 2^-1022
		{leastNormal + 1, api.One - 3, leastNormal - 1, under}, // just below halfway
		{2*leastNormal - 1, half, leastNormal, off},            // halfway
		{2*leastNormal + 1, half, leastNormal + 1, 0},
		{greatest, api.One, greatest, 0},
		{greatest, half, greatest - 1<<52, 0},
		{greatest, api.One - 1, greatest - 1, off}, // just above a number
		{greatest, api.One + 1, api.Inf, over},
		{greatest, power(1), api.Inf, over},
		{greatest, greatest, api.Inf, over},
		{power(1023), power(1), api.Inf, over},   // 2^1024 itself
		{power(512), power(511), power(1023), 0}, // the greatest power of two
		{power(512), power(512), api.Inf, over},
		{power(1023), power(1) - 1, greatest, 0}, // the greatest again
		{power(1023) + 1, power(1) - 1, api.Inf, over},
		{power(1023) + 1, power(1) - 2, api.Inf, over}, // 2^920 below 2^1024
		{power(1023) + 1, power(1) - 3, greatest, off}, // just below the greatest
		{power(1023) + 1, power(1) - 4, greatest - 1, off},
		{greatest, least, times2(1<<53-1, 971-1074), 0}, // as far apart as can be
		{greatest, leastNormal, power(2) - 1, 0},
		{power(1023), leastNormal, power(1), 0},
		{power(1023), least, power(-51), 0},
	} {
		for _, l := range c.turn() {
			wantsProduct(t, l.a, l.b, l.want, l.flags)
			wantsProduct(t, l.b, l.a, l.want, l.flags)
		}
	}
}

func TestP6_2AtTheEdges(t *testing.T) {
	half, two, three := power(-1), power(1), times2(3, 0)
	for _, c := range []line{
		{api.One, api.One, api.One, 0},
		{times2(9, 0), three, three, 0},
		{api.One, three, 0x3fd5555555555555, off},
		{two, three, 0x3fe5555555555555, off},
		{api.One, times2(10, 0), 0x3fb999999999999a, off},
		{api.One, times2(7, 0), 0x3fc2492492492492, off},
		{api.One, api.One + 1, api.One - 2, off},     // just above a number
		{api.One, api.One - 1, api.One + 1, off},     // just above halfway
		{api.One - 1, api.One + 1, api.One - 3, off}, // just above a number
		{api.One + 1, api.One - 1, api.One + 2, off}, // just above halfway
		{two - 1, api.One + 1, two - 3, off},         // just above a number
		{two - 2, two - 1, api.One - 1, off},         // just below a number
		{least, least, api.One, 0},
		{least, 2, half, 0},
		{3, least, three, 0},
		{least, 3, 0x3fd5555555555555, off},
		{least, two, api.Zero, under},      // halfway between Zero and the least
		{least, two - 1, least, under},     // just above
		{least, two + 1, api.Zero, under},  // just below
		{3, two, 2, under},                 // halfway
		{5, two, 2, under},                 // halfway
		{3, two + 1, least, under},         // just below halfway
		{5, two - 1, 3, under},             // just above halfway
		{9, times2(6, 0), 2, under},        // halfway, the divisor being no power of two
		{15, times2(6, 0), 2, under},       // halfway as well
		{least, three, api.Zero, under},    // below the least
		{2, three, least, under},           // as well, but nearer to it than to Zero
		{least, greatest, api.Zero, under}, // as far below as can be
		{leastNormal, greatest, api.Zero, under},
		{power(-537), power(537), least, 0}, // the least itself
		{power(-537), power(538), api.Zero, under},
		{power(-537) + 1, power(538), least, under},
		{leastNormal - 1, api.One, leastNormal - 1, 0},
		{leastNormal - 1, two, leastNormal / 2, under}, // halfway, the even one above
		{leastNormal - 1, half, 2*leastNormal - 2, 0},
		{leastNormal - 1, leastNormal - 1, api.One, 0},
		{leastNormal - 1, leastNormal, api.One - 2, 0},
		{leastNormal, leastNormal - 1, api.One + 1, off},
		{leastNormal, two, leastNormal / 2, 0},
		{leastNormal, api.One + 1, leastNormal - 1, under}, // 2^-1126 above a number
		{2*leastNormal - 1, two, leastNormal, off},         // halfway below 2^-1022; what is rounded is no more below it
		{2*leastNormal - 2, two, leastNormal - 1, 0},
		{2*leastNormal - 3, two, leastNormal - 2, under}, // halfway
		{2 * leastNormal, two + 1, leastNormal - 1, under},
		{2*leastNormal + 1, two, leastNormal + 1, 0},
		{greatest, api.One, greatest, 0},
		{greatest, half, api.Inf, over},
		{greatest, api.One - 1, api.Inf, over},     // 2^1024 itself
		{greatest - 1, api.One - 1, greatest, off}, // just below a number
		{greatest, api.One + 1, greatest - 2, off}, // just above a number
		{greatest, least, api.Inf, over},           // as far beyond as can be
		{api.One, least, api.Inf, over},
		{api.One, leastNormal, power(1022), 0},
		{power(1023), half, api.Inf, over}, // 2^1024 again
		{power(1023), half + 1, greatest - 1, off},
		{power(1023), api.One - 1, power(1023) + 1, off},
		{api.One, power(-1023), power(1023), 0},
		{api.One, power(-1024), api.Inf, over},
		{api.One, power(-1024) + 1, greatest - 7, off},
		{power(1023), leastNormal, api.Inf, over},
		{api.One, power(1023), power(-1023), 0},
		{api.One, greatest, leastNormal / 4, under},
		{greatest, greatest, api.One, 0},
		{power(971), greatest, power(-53) + 1, off}, // just above halfway
	} {
		for _, l := range c.turn() {
			wantsQuotient(t, l.a, l.b, l.want, l.flags)
		}
	}
}

// TestP6_1OnTheWayOut: products that come ever nearer to 2^-1075, to 2^-1022 and to 2^1024, from below and from above.
func TestP6_1OnTheWayOut(t *testing.T) {
	for _, c := range []struct{ first, second int }{{-538, -537}, {-600, -475}, {-511, -511}, {-1000, -22}, {512, 512}, {900, 124}} {
		for step := range api.Bits(60) {
			for _, p := range []pair{{power(c.first) + step, power(c.second) - step}, {power(c.first) - step, power(c.second) + step}, {power(c.first) - step, power(c.second)}, {power(c.first) + step, power(c.second)}} {
				want, flags := nearest(product(p.a, p.b))
				wantsProduct(t, p.a, p.b, want, flags)
			}
		}
	}
}

// TestP6_2OnTheWayOut: quotients that come ever nearer to 2^-1075, to 2^-1022 and to 2^1024, from below and from above.
func TestP6_2OnTheWayOut(t *testing.T) {
	for _, c := range []struct{ first, second int }{{-537, 538}, {-1000, 75}, {-511, 511}, {-22, 1000}, {512, -512}, {900, -124}, {1, -1023}} {
		for step := range api.Bits(60) {
			for _, p := range []pair{{power(c.first) + step, power(c.second) + step}, {power(c.first) - step, power(c.second) - step}, {power(c.first) - step, power(c.second)}, {power(c.first), power(c.second) - step}} {
				want, flags := nearest(quotient(p.a, p.b))
				wantsQuotient(t, p.a, p.b, want, flags)
			}
		}
	}
}
