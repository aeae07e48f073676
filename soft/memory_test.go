package soft_test

import (
	"slices"
	"testing"

	"dioptra/api"
	"dioptra/soft"
)

const mark = 0xdeadbeef

// roomy is a number whose list has marked room behind its end.
func roomy(neg bool, e int, limbs ...uint32) api.Dyadic {
	room := append(slices.Clone(limbs), mark, mark, mark)
	return api.Dyadic{M: api.Whole{Neg: neg, Limbs: room[:len(limbs)]}, E: e}
}

func TestP4_1NothingHandedInChanges(t *testing.T) {
	for _, d := range []api.Dyadic{
		roomy(false, 0), roomy(false, 0, 1), roomy(true, -1075, 1), roomy(false, -1075, 0xffffffff, 0x1fffff), roomy(true, 970, 0xffffffff, 0x3fffff),
		roomy(true, -40, 7, 8, 9), roomy(false, 1024, 1), roomy(true, -3000, 5, 6), roomy(true, 0), roomy(false, 0, 0, 6), roomy(false, 0, 3, 0), roomy(false, 20000, 1),
	} {
		before := slices.Clone(d.M.Limbs[:cap(d.M.Limbs)])
		soft.Round(d)
		if after := d.M.Limbs[:cap(d.M.Limbs)]; !slices.Equal(before, after) {
			t.Errorf("%x became %x", before, after)
		}
	}
}

func TestP4_1ValuesAreNewMemory(t *testing.T) {
	for _, b := range finites() {
		first, _ := soft.Value(b)
		second, _ := soft.Value(b)
		keep := slices.Clone(second.M.Limbs)
		room := first.M.Limbs[:cap(first.M.Limbs)]
		for i := range room {
			room[i]++
		}
		third, _ := soft.Value(b)
		if !slices.Equal(second.M.Limbs, keep) || !slices.Equal(third.M.Limbs, keep) {
			t.Errorf("%x: two values share their memory", b)
		}
	}
}
