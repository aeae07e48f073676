package whole_test

import (
	"math"
	"slices"
	"testing"

	"dioptra/api"
	"dioptra/whole"
)

const mark = 0xdeadbeef

// roomy is a number whose list has marked room behind its end.
func roomy(neg bool, limbs ...uint32) api.Whole {
	room := append(slices.Clone(limbs), mark, mark, mark)
	return api.Whole{Neg: neg, Limbs: room[:len(limbs)]}
}

// spoil changes all of a list, and the room behind its end.
func spoil(a api.Whole) {
	room := a.Limbs[:cap(a.Limbs)]
	for i := range room {
		room[i]++
	}
}

// callsOf does every call that answers a number.
func callsOf(a, b api.Whole) []api.Whole {
	var list []api.Whole
	for _, op := range operations() {
		got, _ := op.call(a, b)
		list = append(list, got)
	}
	for _, n := range []int{0, 1, 32, -1, -32} {
		got, _ := whole.Shift(a, n)
		list = append(list, got)
	}
	return list
}

func pairs() [][2]api.Whole {
	full := roomy(false, math.MaxUint32, math.MaxUint32)
	return [][2]api.Whole{
		{roomy(false, 7, 8, 9), roomy(false)},
		{roomy(false), roomy(true, 7, 8, 9)},
		{roomy(true, 7, 8, 9), roomy(false, 1)},
		{roomy(false, 1), roomy(true, 0, 0, 1)},
		{roomy(false), roomy(false)},
		{full, full},
	}
}

func TestP1_2NothingHandedInChanges(t *testing.T) {
	for _, p := range pairs() {
		var before [2][]uint32
		for i, a := range p {
			before[i] = slices.Clone(a.Limbs[:cap(a.Limbs)])
		}
		callsOf(p[0], p[1])
		whole.Check(p[0])
		whole.Compare(p[0], p[1])
		whole.Len(p[0])
		whole.Small(p[0])
		for i, a := range p {
			if !slices.Equal(before[i], a.Limbs[:cap(a.Limbs)]) {
				t.Errorf("%v became %v", before[i], a.Limbs[:cap(a.Limbs)])
			}
		}
	}
}

func TestP1_2AnswersAreNewMemory(t *testing.T) {
	for _, p := range pairs() {
		answers := callsOf(p[0], p[1])
		var before [][]uint32
		for _, a := range answers {
			before = append(before, slices.Clone(a.Limbs))
		}
		spoil(p[0])
		spoil(p[1])
		for i, a := range answers {
			if !slices.Equal(a.Limbs, before[i]) {
				t.Errorf("answer %d hangs on what was handed in: %v became %v", i, before[i], a.Limbs)
			}
			spoil(a) // the answers behind it must stay as they were
		}
	}
}

func TestP1_1OfAnswersNewMemory(t *testing.T) {
	for _, n := range []int64{0, 1, math.MinInt64} {
		a := whole.Of(n)
		spoil(a)
		if m, e := whole.Small(whole.Of(n)); m != n || e != api.OK {
			t.Errorf("%d: %d, %v", n, m, e)
		}
	}
}
