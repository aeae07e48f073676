package svd_test

import (
	"slices"
	"testing"

	"dioptra/api"
	"dioptra/svd"
)

const mark = api.Bits(0xdeadbeefdeadbeef)

// roomy is a copy of m with marks in the room behind its numbers' end.
func roomy(m api.Matrix) api.Matrix {
	n := len(m.Data)
	m.Data = append(slices.Clone(m.Data), mark, mark, mark)[:n]
	return m
}

// whole is a copy of a list, with the room behind its end.
func whole(list []api.Bits) []api.Bits {
	return slices.Clone(list[:cap(list)])
}

// spoil writes over a list and the room behind its end.
func spoil(list []api.Bits) {
	list = list[:cap(list)]
	for i := range list {
		list[i] = mark
	}
}

// inputs are matrices of all sizes: such as are turned, such as nothing is turned of, such as are put in another order alone, such as are too great, and such as are wrong.
func inputs() []api.Matrix {
	d := dice(1960)
	list := []api.Matrix{{}, of(2, 2, api.One), of(2, 2, filled(5, 1, api.One).Data...), of(7, 1, filled(7, 1, api.One).Data...), of(-1, -1, api.One), of(2, 1, api.One, api.Inf), filled(3, 3, greatest), filled(3, 3, api.NegZero), wholes(2, 2, 3, 0, 0, 4), wholes(2, 2, 4, 0, 0, 3)}
	for _, s := range sizes() {
		list = append(list, picked(s[0], s[1], d.near(-3, 6)), picked(s[0], s[1], d.sparse(d.small(2))), picked(s[0], s[1], d.out(finites())), withDiagonal(s[0], s[1], api.Zero, filled(min(s[0], s[1]), 1, two).Data...))
	}
	return list
}

// TestP19_1NothingHandedInChanges: nor what lies behind the numbers' end; a second answer is the first one, and no answer shares memory with what is handed in, or with another answer.
func TestP19_1NothingHandedInChanges(t *testing.T) {
	told := 0
	for _, from := range inputs() {
		a := roomy(from)
		before := whole(a.Data)
		first, second := ask(a), ask(a)
		want := first.clone()
		if !slices.Equal(whole(a.Data), before) {
			t.Fatalf("Upright of %s: it became %x", show(from), whole(a.Data))
		}
		if !first.same(second) {
			t.Fatalf("Upright of %s: %sand then %s", show(from), first.show(), second.show())
		}
		if len(first.v.Data) > 0 {
			told++
		}
		for _, list := range first.lists() {
			spoil(list)
		}
		if !second.same(want) || !slices.Equal(whole(a.Data), before) {
			t.Fatalf("Upright of %s: an answer shares memory", show(from))
		}
		spoil(a.Data)
		if !second.same(want) {
			t.Errorf("Upright of %s: what is told has changed with it", show(from))
		}
		if third := ask(from); !third.same(want) {
			t.Errorf("Upright of %s: a later answer has changed with an earlier one", show(from))
		}
	}
	if told < 100 {
		t.Errorf("%d answers had numbers", told)
	}
}

// TestP19_1ThreeMemories: no two of w, v and the sizes share any, nor the room behind their ends.
func TestP19_1ThreeMemories(t *testing.T) {
	for _, a := range inputs() {
		want := ask(a)
		for which := range want.lists() {
			got := ask(a)
			spoil(got.lists()[which])
			for i, list := range got.lists() {
				if i != which && !slices.Equal(list, want.lists()[i]) {
					t.Errorf("Upright of %s: number %d of the three has changed with number %d", show(a), i, which)
				}
			}
			got = ask(a)
			_ = append(got.lists()[which], filled(6, 6, mark).Data...) // what is put behind one's end is seen in none of the others
			if !got.same(want) {
				t.Errorf("Upright of %s: behind the end of number %d of the three lies another one", show(a), which)
			}
		}
	}
}

// TestP19_1RankChangesNothing: nor what lies behind the list's end; it says the same each time.
func TestP19_1RankChangesNothing(t *testing.T) {
	for _, from := range inputs() {
		sizes := roomy(from).Data
		before := whole(sizes)
		first, second := svd.Rank(sizes), svd.Rank(sizes)
		if first != second || !slices.Equal(whole(sizes), before) {
			t.Errorf("Rank of %x: %d, and then %d; they became %x", from.Data, first, second, whole(sizes))
		}
	}
}
