package times_test

import (
	"testing"

	"dioptra/api"
	"dioptra/times"
)

func wantsProduct(t *testing.T, a, b, want api.Bits, flags api.Flags) {
	t.Helper()
	if got, f := times.Mul(a, b); got != want || f != flags {
		t.Errorf("%x times %x: %x, flags %d; wanted %x, flags %d", a, b, got, f, want, flags)
	}
}

func wantsQuotient(t *testing.T, a, b, want api.Bits, flags api.Flags) {
	t.Helper()
	if got, f := times.Div(a, b); got != want || f != flags {
		t.Errorf("%x by %x: %x, flags %d; wanted %x, flags %d", a, b, got, f, want, flags)
	}
}

func wantsSquare(t *testing.T, a, want api.Bits, flags api.Flags) {
	t.Helper()
	if got, f := times.Square(a); got != want || f != flags {
		t.Errorf("%x squared: %x, flags %d; wanted %x, flags %d", a, got, f, want, flags)
	}
}

// withSign is size with the sign of a and b.
func withSign(size, a, b api.Bits) api.Bits {
	return size | (a^b)&api.NegZero
}

func TestP6_1NoNumber(t *testing.T) {
	for _, none := range noNumbers() {
		for _, b := range all() {
			wantsProduct(t, none, b, api.NaN, 0)
			wantsProduct(t, b, none, api.NaN, 0)
		}
		wantsSquare(t, none, api.NaN, 0)
	}
}

func TestP6_1WithoutAnEnd(t *testing.T) {
	for _, inf := range infinites() {
		for _, nought := range noughts() {
			wantsProduct(t, inf, nought, api.NaN, api.Invalid)
			wantsProduct(t, nought, inf, api.NaN, api.Invalid)
		}
		for _, b := range append(sizes(), infinites()...) {
			wantsProduct(t, inf, b, withSign(api.Inf, inf, b), 0)
			wantsProduct(t, b, inf, withSign(api.Inf, inf, b), 0)
		}
		wantsSquare(t, inf, api.Inf, 0)
	}
	wantsProduct(t, api.Inf, api.NegInf, api.NegInf, 0)
	wantsProduct(t, api.NegInf, api.NegInf, api.Inf, 0)
	wantsProduct(t, minusOne, api.Inf, api.NegInf, 0)
}

func TestP6_1Noughts(t *testing.T) {
	for _, nought := range noughts() {
		for _, b := range append(sizes(), noughts()...) {
			wantsProduct(t, nought, b, withSign(api.Zero, nought, b), 0)
			wantsProduct(t, b, nought, withSign(api.Zero, nought, b), 0)
		}
		wantsSquare(t, nought, api.Zero, 0)
	}
	wantsProduct(t, api.Zero, api.NegZero, api.NegZero, 0)
	wantsProduct(t, api.NegZero, api.NegZero, api.Zero, 0)
	wantsProduct(t, minusOne, api.Zero, api.NegZero, 0)
	wantsProduct(t, greatest, api.Zero, api.Zero, 0)
}

func TestP6_2NoNumber(t *testing.T) {
	for _, none := range noNumbers() {
		for _, b := range all() {
			wantsQuotient(t, none, b, api.NaN, 0)
			wantsQuotient(t, b, none, api.NaN, 0)
		}
	}
}

func TestP6_2WithoutAnEnd(t *testing.T) {
	for _, inf := range infinites() {
		for _, other := range infinites() {
			wantsQuotient(t, inf, other, api.NaN, api.Invalid)
		}
		for _, b := range append(sizes(), noughts()...) { // a nought is finite, too, and named there first
			wantsQuotient(t, inf, b, withSign(api.Inf, inf, b), 0)
			wantsQuotient(t, b, inf, withSign(api.Zero, inf, b), 0)
		}
	}
	wantsQuotient(t, api.Inf, minusOne, api.NegInf, 0)
	wantsQuotient(t, minusOne, api.Inf, api.NegZero, 0)
	wantsQuotient(t, minusOne, api.NegInf, api.Zero, 0)
	wantsQuotient(t, api.Inf, api.NegZero, api.NegInf, 0)
	wantsQuotient(t, api.Zero, api.NegInf, api.NegZero, 0)
}

func TestP6_2Noughts(t *testing.T) {
	for _, nought := range noughts() {
		for _, other := range noughts() {
			wantsQuotient(t, nought, other, api.NaN, api.Invalid)
		}
		for _, b := range sizes() {
			wantsQuotient(t, nought, b, withSign(api.Zero, nought, b), 0)
			wantsQuotient(t, b, nought, withSign(api.Inf, nought, b), api.DivZero)
		}
	}
	wantsQuotient(t, api.One, api.NegZero, api.NegInf, api.DivZero)
	wantsQuotient(t, minusOne, api.NegZero, api.Inf, api.DivZero)
	wantsQuotient(t, least, api.Zero, api.Inf, api.DivZero)
	wantsQuotient(t, minus(greatest), api.Zero, api.NegInf, api.DivZero)
	wantsQuotient(t, api.NegZero, least, api.NegZero, 0)
}
