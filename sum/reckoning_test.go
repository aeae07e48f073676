package sum_test

import (
	"testing"

	"dioptra/api"
	"dioptra/sum"
)

// reckoned is the sum of two finite numbers, and its flags, as the words say it.
func reckoned(a, b api.Bits) (api.Bits, api.Flags) {
	v := exactly(a, b)
	switch {
	case v.Sign() != 0:
		return nearest(v)
	case a >= api.NegZero && b >= api.NegZero:
		return api.NegZero, 0
	}
	return api.Zero, 0
}

func TestP5_1Add(t *testing.T) {
	for _, p := range pairs() {
		want, flags := reckoned(p.a, p.b)
		wantsSum(t, p.a, p.b, want, flags)
	}
}

func TestP5_1Sub(t *testing.T) {
	for _, p := range pairs() {
		want, flags := reckoned(p.a, minus(p.b))
		wantsDifference(t, p.a, p.b, want, flags)
	}
}

// TestP5_1AtTheEdges writes out what comes of the edges, both sums of c and the same with all signs turned.
func TestP5_1AtTheEdges(t *testing.T) {
	const (
		off  = api.Inexact
		over = api.Inexact | api.Overflow
	)
	for _, c := range []struct {
		a, b, want api.Bits
		flags      api.Flags
	}{
		{api.One, api.One, power(1), 0},
		{api.One, minusOne - 1, halfStep(0), 0},
		{api.One, power(-53), api.One, off}, // halfway, the even one below
		{api.One, power(-53) - 1, api.One, off},
		{api.One, power(-53) + 1, api.One + 1, off},
		{api.One + 1, power(-53), api.One + 2, off}, // halfway, the even one above
		{api.One + 1, power(-53) - 1, api.One + 1, off},
		{power(1) - 1, power(-53), power(1), off}, // halfway, the one above with a digit more
		{api.One, minus(power(-54)), api.One, off},
		{api.One, minus(power(-54) + 1), api.One - 1, off},
		{api.One, minus(power(-53)), api.One - 1, 0},
		{api.One, 1, api.One, off},
		{power(1000), minus(power(-1000)), power(1000), off},
		{greatest, 1, greatest, off}, // as far apart as powers can be
		{greatest, minus(1), greatest, off},
		{power(1023), minus(1), power(1023), off},
		{1, 1, 2, 0},
		{1, leastNormal - 1, leastNormal, 0},
		{leastNormal - 1, leastNormal - 1, 2*leastNormal - 2, 0},
		{leastNormal, minus(1), leastNormal - 1, 0},
		{leastNormal, minus(leastNormal - 1), 1, 0},
		{leastNormal, leastNormal, 2 * leastNormal, 0},
		{2*leastNormal + 1, minus(2 * leastNormal), 2, 0},
		{2 * leastNormal, minus(leastNormal + 1), leastNormal - 1, 0},
		{greatest, minus(greatest), api.Zero, 0},
		{greatest, minus(greatest - 1), power(971), 0},
		{greatest, power(970) - 1, greatest, off}, // just below halfway to 2^1024
		{greatest, power(970), api.Inf, over},     // halfway
		{greatest, power(970) + 1, api.Inf, over},
		{greatest - 1, power(970), greatest - 1, off},
		{greatest - 1, power(971), greatest, 0},
		{greatest, power(971), api.Inf, over}, // 2^1024 itself
		{power(1023), power(1023), api.Inf, over},
		{greatest, greatest, api.Inf, over},
		{api.Inf, greatest, api.Inf, 0},
	} {
		wantsSum(t, c.a, c.b, c.want, c.flags)
		wantsSum(t, c.b, c.a, c.want, c.flags)
		wantsDifference(t, c.a, minus(c.b), c.want, c.flags)
		if c.want == api.Zero {
			continue
		}
		wantsSum(t, minus(c.a), minus(c.b), minus(c.want), c.flags)
		wantsDifference(t, minus(c.b), c.a, minus(c.want), c.flags)
	}
}

// TestP5_1NoUnderflow: what is below 2^-1022 has no digit behind the last one that can be written.
func TestP5_1NoUnderflow(t *testing.T) {
	for _, p := range pairs() {
		if s, f := sum.Add(p.a, p.b); f&(api.Underflow|api.DivZero|api.Invalid) != 0 {
			t.Errorf("%x and %x: %x, flags %d", p.a, p.b, s, f)
		}
	}
}

// folded is All as its words say it.
func folded(list []api.Bits) (api.Bits, api.Flags) {
	total, raised := api.Zero, api.Flags(0)
	for _, b := range list {
		var f api.Flags
		total, f = reckoned(total, b)
		raised |= f
		if total&^api.NegZero == api.Inf {
			return total, raised
		}
	}
	return total, raised
}

func TestP5_2Many(t *testing.T) {
	d := dice(9)
	for n := range 60 {
		list := make([]api.Bits, n)
		for i := range list {
			// Of powers at most 60 apart and both signs, so that no sum is too great, and some digits go lost.
			list[i] = power(int(d.roll()%60)) | api.Bits(d.roll())%(1<<52) | api.Bits(d.roll())<<63
		}
		want, flags := folded(list)
		wantsAll(t, list, want, flags)
	}
}

func TestP5_2TooGreatOnTheWay(t *testing.T) {
	list := make([]api.Bits, 3000)
	for i := range list {
		list[i] = power(1013)
	}
	wantsAll(t, list[:2047], 0x7feffc0000000000, 0)
	wantsAll(t, list[:2048], api.Inf, api.Inexact|api.Overflow)
	wantsAll(t, list, api.Inf, api.Inexact|api.Overflow)
}

func TestP5_2InOrder(t *testing.T) {
	tiny := make([]api.Bits, 4096)
	for i := range tiny {
		tiny[i] = power(-53)
	}
	wantsAll(t, append([]api.Bits{api.One}, tiny...), api.One, api.Inexact)
	wantsAll(t, append(tiny, api.One), api.One+2048, 0)
}
