package root_test

import (
	"testing"

	"dioptra/api"
	"dioptra/root"
)

func wantsRoot(t *testing.T, a, want api.Bits, flags api.Flags) {
	t.Helper()
	if got, f := root.Sqrt(a); got != want || f != flags {
		t.Errorf("root of %x: %x, flags %d; wanted %x, flags %d", a, got, f, want, flags)
	}
}

func TestP7_2NoNumber(t *testing.T) {
	for _, none := range noNumbers() {
		wantsRoot(t, none, api.NaN, 0)
	}
	d := dice(71)
	for range 1000 {
		fraction := 1 + api.Bits(d.roll())%(1<<52-1)
		wantsRoot(t, api.Inf|fraction, api.NaN, 0)
		wantsRoot(t, api.NegInf|fraction, api.NaN, 0)
	}
}

func TestP7_2Noughts(t *testing.T) {
	wantsRoot(t, api.Zero, api.Zero, 0)
	wantsRoot(t, api.NegZero, api.NegZero, 0)
}

func TestP7_2WithoutAnEnd(t *testing.T) {
	wantsRoot(t, api.Inf, api.Inf, 0)
	wantsRoot(t, api.NegInf, api.NaN, api.Invalid)
}

func TestP7_2Below0(t *testing.T) {
	for _, b := range below0() {
		wantsRoot(t, b, api.NaN, api.Invalid)
	}
	for _, b := range []api.Bits{least, leastNormal - 1, leastNormal, api.One, power(1), power(2), greatest} {
		wantsRoot(t, minus(b), api.NaN, api.Invalid)
	}
}
