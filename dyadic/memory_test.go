package dyadic_test

import (
	"slices"
	"testing"

	"dioptra/api"
	"dioptra/dyadic"
)

const mark = 0xdeadbeef

// roomy is a number whose list has marked room behind its end.
func roomy(neg bool, e int, limbs ...uint32) api.Dyadic {
	room := append(slices.Clone(limbs), mark, mark, mark)
	return api.Dyadic{M: api.Whole{Neg: neg, Limbs: room[:len(limbs)]}, E: e}
}

func roomOf(a api.Dyadic) []uint32 {
	return a.M.Limbs[:cap(a.M.Limbs)]
}

// spoil changes all of a list, and the room behind its end.
func spoil(a api.Dyadic) {
	room := roomOf(a)
	for i := range room {
		room[i]++
	}
}

// callsOf does every call that answers a number.
func callsOf(a, b api.Dyadic) []api.Dyadic {
	var list []api.Dyadic
	for _, op := range operations() {
		got, _ := op.call(a, b)
		list = append(list, got)
	}
	for _, n := range []int{0, 1, -1, 100} {
		scaled, _ := dyadic.Scale(a, n)
		made, _ := dyadic.Make(a.M, n)
		list = append(list, scaled, made)
	}
	return list
}

func pairs() [][2]api.Dyadic {
	return [][2]api.Dyadic{
		{roomy(false, -3, 7, 8, 9), roomy(false, 0)},
		{roomy(false, 0), roomy(true, 40, 7, 8, 9)},
		{roomy(true, 5, 7, 8, 9), roomy(false, 5, 1)},
		{roomy(false, 1, 1), roomy(true, -70, 3, 0, 1)},
		{roomy(false, 0), roomy(false, 0)},
		{roomy(false, 0, 0, 6), roomy(false, 0, 1)}, // it is even: Make takes it, the others do not
	}
}

func TestP2_2NothingHandedInChanges(t *testing.T) {
	for _, p := range pairs() {
		var before [2][]uint32
		for i, a := range p {
			before[i] = slices.Clone(roomOf(a))
		}
		callsOf(p[0], p[1])
		dyadic.Check(p[0])
		dyadic.Compare(p[0], p[1])
		dyadic.Top(p[0])
		for i, a := range p {
			if !slices.Equal(before[i], roomOf(a)) {
				t.Errorf("%v became %v", before[i], roomOf(a))
			}
		}
	}
}

func TestP2_2AnswersAreNewMemory(t *testing.T) {
	for _, p := range pairs() {
		answers := callsOf(p[0], p[1])
		var before [][]uint32
		for _, a := range answers {
			before = append(before, slices.Clone(a.M.Limbs))
		}
		spoil(p[0])
		spoil(p[1])
		for i, a := range answers {
			if !slices.Equal(a.M.Limbs, before[i]) {
				t.Errorf("answer %d hangs on what was handed in: %v became %v", i, before[i], a.M.Limbs)
			}
			spoil(a) // the answers behind it must stay as they were
		}
	}
}
