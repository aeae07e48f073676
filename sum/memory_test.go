package sum_test

import (
	"slices"
	"testing"

	"dioptra/api"
	"dioptra/sum"
)

func TestP5_2NothingHandedInChanges(t *testing.T) {
	const mark = api.Bits(0xdeadbeefdeadbeef)
	for n := range 6 {
		for _, b := range []api.Bits{api.Zero, api.NegZero, 1, api.One, greatest, api.Inf, api.NegInf, api.NaN, api.Inf + 7} {
			list := append(slices.Repeat([]api.Bits{b, minus(b), api.One}, n), mark, mark)[:3*n]
			before := slices.Clone(list[:cap(list)])
			first, flags := sum.All(list)
			if after := list[:cap(list)]; !slices.Equal(before, after) {
				t.Errorf("%x became %x", before, after)
			}
			wantsAll(t, before[:3*n], first, flags)
		}
	}
}
