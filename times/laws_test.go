package times_test

import (
	"math"
	"math/big"
	"testing"

	"dioptra/api"
	"dioptra/times"
)

func TestP6_1SquareIsMul(t *testing.T) {
	for _, a := range append(all(), signed(some(200))...) {
		want, flags := times.Mul(a, a)
		wantsSquare(t, a, want, flags)
	}
}

func TestP6_1Square(t *testing.T) {
	for _, a := range append(sizes(), signed(some(100))...) {
		want, flags := nearest(product(a, a))
		wantsSquare(t, a, want, flags)
	}
	for _, c := range []line{
		{a: times2(3, 0), want: times2(9, 0)}, {a: api.One + 1, want: api.One + 2, flags: off}, {a: power(-537), want: least}, {a: power(-538) + 1<<51, want: least, flags: under},
		{a: power(-538), want: api.Zero, flags: under}, {a: least, want: api.Zero, flags: under}, {a: power(511), want: power(1022)}, {a: power(512), want: api.Inf, flags: over},
		{a: power(512) - 1, want: greatest - 1, flags: off}, {a: greatest, want: api.Inf, flags: over},
	} {
		wantsSquare(t, c.a, c.want, c.flags)
		wantsSquare(t, minus(c.a), c.want, c.flags)
	}
}

func TestP6_3NoOrder(t *testing.T) {
	for _, p := range append(products(), grid(all())...) {
		want, flags := times.Mul(p.a, p.b)
		wantsProduct(t, p.b, p.a, want, flags)
	}
}

// says is the machine's own number by its bits, whatever no number it makes.
func says(f float64) api.Bits {
	if math.IsNaN(f) {
		return api.NaN
	}
	return api.Bits(math.Float64bits(f))
}

func wantsGosOwn(t *testing.T, a, b api.Bits) {
	t.Helper()
	if p, _ := times.Mul(a, b); p != says(float(a)*float(b)) {
		t.Errorf("%x times %x: %x; wanted %x", a, b, p, says(float(a)*float(b)))
	}
	if q, _ := times.Div(a, b); q != says(float(a)/float(b)) {
		t.Errorf("%x by %x: %x; wanted %x", a, b, q, says(float(a)/float(b)))
	}
}

func TestP6_4GosOwn(t *testing.T) {
	for _, list := range [][]pair{products(), quotients(), grid(all()), rolled(5000)} {
		for _, p := range list {
			wantsGosOwn(t, p.a, p.b)
		}
	}
}

func TestP6_4GosOwnOfAnyBits(t *testing.T) {
	d := dice(64)
	for range 20000 {
		wantsGosOwn(t, api.Bits(d.roll()), api.Bits(d.roll()))
	}
}

func TestP6_4GosOwnInEachPower(t *testing.T) {
	d := dice(65)
	for power := range api.Bits(2048) {
		a := power<<52 | api.Bits(d.roll())%(1<<52)
		for range 30 {
			wantsGosOwn(t, a, api.Bits(d.roll()))
			wantsGosOwn(t, api.Bits(d.roll()), a)
		}
	}
}

// scaled is a times 2^e, and whether that is a number, so that nothing is Underflow or Overflow.
func scaled(a api.Bits, e int) (api.Bits, bool) {
	exact := new(big.Float).SetMantExp(big.NewFloat(float(a)), e)
	f, accuracy := exact.Float64()
	return api.Bits(math.Float64bits(f)), accuracy == big.Exact
}

func TestP6_5PowersOfTwo(t *testing.T) {
	for _, a := range sizes() {
		for e := -1074; e <= 1023; e++ {
			if want, ok := scaled(a, e); ok {
				wantsProduct(t, a, power(e), want, 0)
				wantsProduct(t, power(e), a, want, 0)
				wantsProduct(t, a, minus(power(e)), minus(want), 0)
			} else if _, flags := times.Mul(a, power(e)); flags&api.Inexact == 0 {
				t.Errorf("%x times 2^%d has no number, but flags %d", a, e, flags)
			}
			if want, ok := scaled(a, -e); ok {
				wantsQuotient(t, a, power(e), want, 0)
				wantsQuotient(t, a, minus(power(e)), minus(want), 0)
			} else if _, flags := times.Div(a, power(e)); flags&api.Inexact == 0 {
				t.Errorf("%x by 2^%d has no number, but flags %d", a, e, flags)
			}
		}
	}
}

// TestP6_5JustBeyond: where a power of two takes a number out of those that can be told, it is Underflow or Overflow; but of one value below 2^-1022 what is rounded is 2^-1022.
func TestP6_5JustBeyond(t *testing.T) {
	for _, a := range sizes() {
		for e := -1074; e <= 1023; e++ {
			exact := new(big.Float).SetMantExp(big.NewFloat(math.Abs(float(a))), e)
			border := new(big.Float).SetMantExp(big.NewFloat(0x1p53-1), -1075)
			if _, ok := scaled(a, e); ok || exact.Cmp(border) == 0 {
				continue
			}
			want := under
			if e > 0 {
				want = over
			}
			if _, flags := times.Mul(a, power(e)); flags != want {
				t.Errorf("%x times 2^%d: flags %d", a, e, flags)
			}
			if e < -1023 {
				continue
			}
			if _, flags := times.Div(a, power(-e)); flags != want {
				t.Errorf("%x by 2^%d: flags %d", a, -e, flags)
			}
		}
	}
	wantsProduct(t, 2*leastNormal-1, power(-1), leastNormal, off)
	wantsQuotient(t, 2*leastNormal-1, power(1), leastNormal, off)
}

// TestP6_5ThereAndBack: times a power of two and divided by it again, a number is what it was.
func TestP6_5ThereAndBack(t *testing.T) {
	for _, a := range sizes() {
		for e := -1074; e <= 1023; e += 3 {
			there, flags := times.Mul(a, power(e))
			if flags == 0 {
				wantsQuotient(t, there, power(e), a, 0)
			}
		}
	}
}

func TestP6_6ByItself(t *testing.T) {
	for _, a := range signed(append(edges(), some(500)...)) {
		wantsQuotient(t, a, a, api.One, 0)
		wantsQuotient(t, a, minus(a), minusOne, 0)
	}
	for power := range api.Bits(2047) {
		for _, fraction := range []api.Bits{1, 1 << 51, 0x5a5a5a5a5a5a5, 1<<52 - 1} {
			wantsQuotient(t, power<<52|fraction, power<<52|fraction, api.One, 0)
		}
	}
}

func TestP6_6OthersByThemselves(t *testing.T) {
	for _, a := range append(noughts(), infinites()...) {
		wantsQuotient(t, a, a, api.NaN, api.Invalid)
		wantsQuotient(t, a, minus(a), api.NaN, api.Invalid)
	}
	for _, none := range noNumbers() {
		wantsQuotient(t, none, none, api.NaN, 0)
	}
}
