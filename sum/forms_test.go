package sum_test

import (
	"testing"

	"dioptra/api"
	"dioptra/sum"
)

func wantsSum(t *testing.T, a, b, want api.Bits, flags api.Flags) {
	t.Helper()
	if got, f := sum.Add(a, b); got != want || f != flags {
		t.Errorf("%x and %x: %x, flags %d; wanted %x, flags %d", a, b, got, f, want, flags)
	}
}

func wantsDifference(t *testing.T, a, b, want api.Bits, flags api.Flags) {
	t.Helper()
	if got, f := sum.Sub(a, b); got != want || f != flags {
		t.Errorf("%x less %x: %x, flags %d; wanted %x, flags %d", a, b, got, f, want, flags)
	}
}

func wantsAll(t *testing.T, list []api.Bits, want api.Bits, flags api.Flags) {
	t.Helper()
	if got, f := sum.All(list); got != want || f != flags {
		t.Errorf("%d numbers, %x: %x, flags %d; wanted %x, flags %d", len(list), list[:min(len(list), 6)], got, f, want, flags)
	}
}

func TestP5_1NoNumber(t *testing.T) {
	for _, none := range noNumbers() {
		for _, b := range all() {
			wantsSum(t, none, b, api.NaN, 0)
			wantsSum(t, b, none, api.NaN, 0)
			wantsDifference(t, none, b, api.NaN, 0)
			wantsDifference(t, b, none, api.NaN, 0)
		}
	}
}

func TestP5_1WithoutAnEnd(t *testing.T) {
	for _, inf := range []api.Bits{api.Inf, api.NegInf} {
		wantsSum(t, inf, inf, inf, 0)
		wantsSum(t, inf, minus(inf), api.NaN, api.Invalid)
		wantsDifference(t, inf, inf, api.NaN, api.Invalid)
		wantsDifference(t, inf, minus(inf), inf, 0)
		for _, b := range finites() {
			wantsSum(t, inf, b, inf, 0)
			wantsSum(t, b, inf, inf, 0)
			wantsDifference(t, inf, b, inf, 0)
			wantsDifference(t, b, inf, minus(inf), 0)
		}
	}
}

func TestP5_1Noughts(t *testing.T) {
	for _, c := range []struct {
		a, b, sum, difference api.Bits
	}{
		{api.Zero, api.Zero, api.Zero, api.Zero},
		{api.Zero, api.NegZero, api.Zero, api.Zero},
		{api.NegZero, api.Zero, api.Zero, api.NegZero},
		{api.NegZero, api.NegZero, api.NegZero, api.Zero},
	} {
		wantsSum(t, c.a, c.b, c.sum, 0)
		wantsDifference(t, c.a, c.b, c.difference, 0)
	}
	for _, b := range finites() {
		wantsSum(t, b, minus(b), api.Zero, 0)
		wantsDifference(t, b, b, api.Zero, 0)
		if place(b) != 0 {
			for _, nought := range []api.Bits{api.Zero, api.NegZero} {
				wantsSum(t, b, nought, b, 0)
				wantsSum(t, nought, b, b, 0)
				wantsDifference(t, b, nought, b, 0)
				wantsDifference(t, nought, b, minus(b), 0)
			}
		}
	}
}

func TestP5_2None(t *testing.T) {
	wantsAll(t, nil, api.Zero, 0)
	wantsAll(t, []api.Bits{}, api.Zero, 0)
}

func TestP5_2One(t *testing.T) {
	for _, b := range numbers() {
		want := b
		if b == api.NegZero {
			want = api.Zero
		}
		wantsAll(t, []api.Bits{b}, want, 0)
	}
	for _, none := range noNumbers() {
		wantsAll(t, []api.Bits{none}, api.NaN, 0)
	}
}

func TestP5_2SeveralEdges(t *testing.T) {
	const (
		over  = api.Inexact | api.Overflow
		half  = api.Bits(0x3ca0000000000000) // of One's step
		least = api.Bits(1)
	)
	for _, c := range []struct {
		list  []api.Bits
		want  api.Bits
		flags api.Flags
	}{
		{[]api.Bits{api.NegZero, api.NegZero}, api.Zero, 0}, // since it begins at Zero
		{[]api.Bits{api.One, api.One, half}, power(1), api.Inexact},
		{[]api.Bits{half, half, api.One}, api.One + 1, 0},
		{[]api.Bits{api.One, half, half}, api.One, api.Inexact},
		{[]api.Bits{api.One, half + 1, half}, api.One + 2, api.Inexact},
		{[]api.Bits{api.One, half, minusOne}, api.Zero, api.Inexact},
		{[]api.Bits{greatest, greatest, minus(greatest)}, api.Inf, over},
		{[]api.Bits{greatest, minus(greatest), greatest}, greatest, 0},
		{[]api.Bits{greatest, least, minus(greatest), least}, least, api.Inexact},
		{[]api.Bits{api.Inf, api.One, api.NegInf}, api.NaN, api.Invalid},
		{[]api.Bits{api.Inf, api.NegInf, api.Inf}, api.NaN, api.Invalid},
		{[]api.Bits{greatest, greatest, api.NegInf, api.One}, api.NaN, over | api.Invalid},
		{[]api.Bits{api.One, half, greatest, greatest, api.NegInf, least}, api.NaN, over | api.Invalid},
		{[]api.Bits{api.NaN, api.Inf, api.NegInf}, api.NaN, 0}, // NegInf comes upon no number, not upon Inf
		{[]api.Bits{api.One, half, api.Inf + 7, greatest, greatest}, api.NaN, api.Inexact},
		{[]api.Bits{api.NegInf, greatest, greatest}, api.NegInf, 0},
		{[]api.Bits{leastNormal, minus(least), least, minus(leastNormal), api.NegZero}, api.Zero, 0},
		{[]api.Bits{minus(least), minus(least), minus(least)}, minus(3), 0},
	} {
		wantsAll(t, c.list, c.want, c.flags)
	}
}
