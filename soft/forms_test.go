package soft_test

import (
	"math"
	"testing"

	"dioptra/api"
	"dioptra/soft"
)

// kindOf is the kind by the machine's own numbers.
func kindOf(b api.Bits) int {
	f := math.Float64frombits(uint64(b))
	switch size := math.Abs(f); {
	case math.IsNaN(f):
		return api.KNaN
	case math.IsInf(f, 0):
		return api.KInf
	case size == 0:
		return api.KZero
	case size < 0x1p-1022:
		return api.KSubnormal
	}
	return api.KNormal
}

func TestP4_1Kind(t *testing.T) {
	for _, b := range all() {
		if k := soft.Kind(b); k != kindOf(b) {
			t.Errorf("%x: %d; wanted %d", b, k, kindOf(b))
		}
	}
}

func TestP4_1KindAtTheEdges(t *testing.T) {
	for _, c := range []struct {
		b    api.Bits
		want int
	}{
		{api.Zero, api.KZero}, {1, api.KSubnormal}, {leastNormal - 1, api.KSubnormal}, {leastNormal, api.KNormal}, {api.One, api.KNormal},
		{greatest, api.KNormal}, {api.Inf, api.KInf}, {api.Inf + 1, api.KNaN}, {api.NaN, api.KNaN}, {1<<63 - 1, api.KNaN},
	} {
		for _, b := range []api.Bits{c.b, c.b | api.NegZero} {
			if k := soft.Kind(b); k != c.want {
				t.Errorf("%x: %d; wanted %d", b, k, c.want)
			}
		}
	}
}

func TestP4_1KindOfEachPower(t *testing.T) {
	for power := range api.Bits(2048) {
		for _, fraction := range []api.Bits{0, 1, 1 << 51, 1<<52 - 1} {
			for _, b := range []api.Bits{power<<52 | fraction, 1<<63 | power<<52 | fraction} {
				if k := soft.Kind(b); k != kindOf(b) {
					t.Errorf("%x: %d; wanted %d", b, k, kindOf(b))
				}
			}
		}
	}
}

func TestP4_1Sign(t *testing.T) {
	for _, b := range all() {
		if s := soft.Sign(b); s != math.Signbit(math.Float64frombits(uint64(b))) {
			t.Errorf("%x: %v", b, s)
		}
	}
	if soft.Sign(api.Zero) || !soft.Sign(api.NegZero) || soft.Sign(api.NaN) || !soft.Sign(api.NegInf+1) {
		t.Error("noughts and what is no number have signs as well")
	}
}

func TestP4_1Finite(t *testing.T) {
	for _, b := range finites() {
		if !soft.Finite(b) {
			t.Errorf("%x is finite", b)
		}
	}
	for _, b := range append(noNumbers(), api.Inf, api.NegInf) {
		if soft.Finite(b) {
			t.Errorf("%x is not finite", b)
		}
	}
}

func TestP4_1Minus(t *testing.T) {
	for _, b := range all() {
		m := soft.Minus(b)
		if m == b || m<<1 != b<<1 {
			t.Errorf("%x: %x", b, m)
		}
		if again := soft.Minus(m); again != b {
			t.Errorf("%x twice: %x", b, again)
		}
	}
	for b, want := range map[api.Bits]api.Bits{api.Zero: api.NegZero, api.Inf: api.NegInf, api.One: 0xbff0000000000000, api.NaN: 0xfff8000000000000, api.Inf + 1: api.NegInf + 1} {
		if m := soft.Minus(b); m != want {
			t.Errorf("%x: %x; wanted %x", b, m, want)
		}
	}
}

func TestP4_1RoundOfWrong(t *testing.T) {
	for _, d := range wrongs() {
		if b, f, e := soft.Round(d); b != 0 || f != 0 || e != api.ErrForm {
			t.Errorf("%s: %x, %d, %v", show(d), b, f, e)
		}
	}
}

func TestP4_1ValueOfNone(t *testing.T) {
	for _, b := range append(noNumbers(), api.Inf, api.NegInf) {
		if d, e := soft.Value(b); !same(d, api.Dyadic{}) || e != api.ErrNone {
			t.Errorf("%x: %s, %v", b, show(d), e)
		}
	}
}
