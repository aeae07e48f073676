package plain_test

import (
	"math"
	"testing"

	"dioptra/api"
	"dioptra/plain"
)

func float(b api.Bits) float64 {
	return math.Float64frombits(uint64(b))
}

// says is the machine's own number by its bits, whatever no number it makes.
func says(f float64) api.Bits {
	if math.IsNaN(f) {
		return api.NaN
	}
	return api.Bits(math.Float64bits(f))
}

// numbers are of all kinds, and of both signs.
func numbers() []api.Bits {
	var list []api.Bits
	for _, b := range []api.Bits{api.Zero, 1, 1<<52 - 1, 1 << 52, 0x1ff123456789abcd, api.One - 1, api.One, api.One + 1, 0x4008000000000000, 0x5ff123456789abcd, api.Inf - 1, api.Inf, api.Inf + 1, api.NaN, 1<<63 - 1} {
		list = append(list, b, b|api.NegZero)
	}
	return list
}

func wants(t *testing.T, what string, a, b, got, want api.Bits) {
	t.Helper()
	if got != want {
		t.Errorf("%s of %x and %x: %x; wanted %x", what, a, b, got, want)
	}
}

// TestP1OfTwo: each number with each, as the machine's own numbers say.
func TestP1OfTwo(t *testing.T) {
	for _, a := range numbers() {
		for _, b := range numbers() {
			wants(t, "Add", a, b, plain.Add(a, b), says(float(a)+float(b)))
			wants(t, "Sub", a, b, plain.Sub(a, b), says(float(a)-float(b)))
			wants(t, "Mul", a, b, plain.Mul(a, b), says(float(a)*float(b)))
			wants(t, "Div", a, b, plain.Div(a, b), says(float(a)/float(b)))
		}
	}
}

func TestP1OfOne(t *testing.T) {
	for _, a := range numbers() {
		wants(t, "Sqrt", a, a, plain.Sqrt(a), says(math.Sqrt(float(a))))
		for _, k := range []int{0, 1, -1, 53, -53, 1000, -1000, -1075, 2200, -2200, math.MaxInt, math.MinInt} {
			want := says(math.Ldexp(float(a), max(-1<<20, min(k, 1<<20))))
			wants(t, "Scale", a, api.Bits(k), plain.Scale(a, k), want)
		}
	}
}
