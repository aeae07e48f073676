package pivot_test

import (
	"slices"
	"testing"

	"dioptra/api"
	"dioptra/pivot"
)

const (
	mark      = api.Bits(0xdeadbeefdeadbeef)
	markPlace = -77
)

// roomy is a copy of m with marks in the room behind its numbers' end.
func roomy(m api.Matrix) api.Matrix {
	n := len(m.Data)
	m.Data = append(slices.Clone(m.Data), mark, mark, mark)[:n]
	return m
}

// whole is a copy of a list, with the room behind its end.
func whole[T any](list []T) []T {
	return slices.Clone(list[:cap(list)])
}

// spoil writes over a list and the room behind its end.
func spoil[T any](list []T, by T) {
	list = list[:cap(list)]
	for i := range list {
		list[i] = by
	}
}

// inputs are matrices of all sizes, such as come out as they are, such as have no factors, and such as are wrong.
func inputs() []api.Matrix {
	d := dice(1630)
	list := []api.Matrix{{}, of(2, 2, api.One), of(2, 2, filled(5, 1, api.One).Data...), of(7, 1, filled(7, 1, api.One).Data...), of(-1, -1, api.One), of(2, 1, api.One, api.Inf), of(2, 1, greatest, greatest), of(2, 1, power(1023), power(1022)), eye(6), filled(3, 3, api.NegZero), withDiagonal(4, 4, api.Zero, api.One, two, three, four)}
	for _, s := range sizes() {
		list = append(list, picked(s[0], s[1], d.near(-3, 6)), d.upper(picked(s[0], s[1], d.near(-3, 6))), picked(s[0], s[1], d.out(finites())))
	}
	return list
}

func (f factored) clone() factored {
	return factored{clone(f.q), clone(f.r), slices.Clone(f.places)}
}

// TestP16_1NothingHandedInChanges: nor what lies behind the numbers' end; and a second answer is the first one.
func TestP16_1NothingHandedInChanges(t *testing.T) {
	for _, from := range inputs() {
		a := roomy(from)
		before := whole(a.Data)
		first, e := factor(a)
		if !slices.Equal(whole(a.Data), before) {
			t.Fatalf("Factor: %x became %x", before, whole(a.Data))
		}
		if second, f := factor(a); !first.same(second) || e != f {
			t.Errorf("Factor of %s: %v\n%v, and then\n%v\n%v", show(a), first, e, second, f)
		}
		rank, e := pivot.Told(a)
		if again, f := pivot.Told(a); rank != again || e != f || !slices.Equal(whole(a.Data), before) {
			t.Errorf("Told of %s: %d, %v, and then %d, %v; %x became %x", show(from), rank, e, again, f, before, whole(a.Data))
		}
	}
}

// TestP16_1NewMemory: no list of an answer shares memory with what is handed in, with another answer, or with its own other lists.
func TestP16_1NewMemory(t *testing.T) {
	for _, from := range inputs() {
		a := roomy(from)
		before := whole(a.Data)
		first, _ := factor(a)
		second, _ := factor(a)
		want := first.clone()
		spoil(first.q.Data, mark)
		if !slices.Equal(whole(a.Data), before) || !same(first.r, want.r) || !second.same(want) {
			t.Fatalf("%s: q shares memory", show(from))
		}
		spoil(first.r.Data, mark)
		spoil(first.places, markPlace)
		if !slices.Equal(whole(a.Data), before) || !second.same(want) {
			t.Fatalf("%s: r or places share memory", show(from))
		}
		spoil(a.Data, mark)
		if !second.same(want) {
			t.Errorf("%s: what is answered has changed with it", show(from))
		}
		if third, _ := factor(roomy(from)); !third.same(want) {
			t.Errorf("%s: a later answer has changed with an earlier one", show(from))
		}
	}
}

// TestP16_1ColumnsMemory: the same of Columns, of whose lists both are handed in.
func TestP16_1ColumnsMemory(t *testing.T) {
	for _, from := range append(inputs(), of(1, 1, api.NaN+1), filled(6, 6, api.Inf)) {
		for _, list := range [][]int{nil, {0}, {0, 0, 0}, {1, 0}, inOrder(max(0, min(from.Cols, api.MaxDim))), {-1}, make([]int, api.MaxDim+1)} {
			a := roomy(from)
			places := append(slices.Clone(list), markPlace, markPlace)[:len(list)]
			beforeA, beforePlaces := whole(a.Data), whole(places)
			first, e := pivot.Columns(a, places)
			second, f := pivot.Columns(a, places)
			want := clone(first)
			if !same(first, second) || e != f {
				t.Fatalf("Columns(%s, %v): %s, %v, then %s, %v", show(from), list, show(first), e, show(second), f)
			}
			spoil(first.Data, mark)
			if !slices.Equal(whole(a.Data), beforeA) || !slices.Equal(whole(places), beforePlaces) || !same(second, want) {
				t.Fatalf("Columns(%s, %v): they became %x, %v; the other answer %s", show(from), list, whole(a.Data), whole(places), show(second))
			}
			spoil(a.Data, mark)
			spoil(places, markPlace)
			if !same(second, want) {
				t.Errorf("Columns(%s, %v): what is answered has changed with them", show(from), list)
			}
		}
	}
}
