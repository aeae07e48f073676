package solve_test

import (
	"slices"
	"testing"

	"dioptra/api"
	"dioptra/solve"
)

const mark = api.Bits(0xdeadbeefdeadbeef)

// roomy is a copy of m with marks in the room behind its numbers' end.
func roomy(m api.Matrix) api.Matrix {
	n := len(m.Data)
	m.Data = append(slices.Clone(m.Data), mark, mark, mark)[:n]
	return m
}

// whole is a copy of m's numbers, with the room behind their end.
func whole(m api.Matrix) []api.Bits {
	return slices.Clone(m.Data[:cap(m.Data)])
}

// spoil writes over m's numbers and the room behind their end.
func spoil(m api.Matrix) {
	data := m.Data[:cap(m.Data)]
	for i := range data {
		data[i] = mark
	}
}

// inputs are matrices of all sizes, such as are flat, such as have noughts on their diagonal, such as are too great, and such as are wrong.
func inputs() []api.Matrix {
	d := dice(1760)
	list := []api.Matrix{{}, of(2, 2, api.One), of(2, 2, filled(5, 1, api.One).Data...), of(7, 1, filled(7, 1, api.One).Data...), of(-1, -1, api.One), of(2, 1, api.One, api.Inf), filled(2, 1, greatest), withDiagonal(2, 2, api.Zero, api.One, least), eye(6), filled(3, 3, api.NegZero)}
	for _, s := range sizes() {
		list = append(list, picked(s[0], s[1], d.near(-3, 6)), picked(s[0], s[1], d.out(finites())))
	}
	return list
}

// TestP17_1NothingHandedInChanges: nor what lies behind the numbers' end; a second answer is the first one, and no answer shares memory with what is handed in, or with another answer. So it is of Least, too.
func TestP17_1NothingHandedInChanges(t *testing.T) {
	told := 0
	for _, s := range solvers() {
		for _, from := range inputs() {
			for _, other := range inputs() {
				a, b := roomy(from), roomy(other)
				beforeA, beforeB := whole(a), whole(b)
				first, e := s.ask(a, b)
				second, f := s.ask(a, b)
				want := clone(first)
				if !slices.Equal(whole(a), beforeA) || !slices.Equal(whole(b), beforeB) {
					t.Fatalf("%s of %s, %s: they became %x, %x", s.name, show(from), show(other), whole(a), whole(b))
				}
				if !same(first, second) || e != f {
					t.Fatalf("%s of %s, %s: %s, %v, and then %s, %v", s.name, show(from), show(other), show(first), e, show(second), f)
				}
				if len(first.Data) > 0 {
					told++
				}
				spoil(first)
				if !same(second, want) || !slices.Equal(whole(a), beforeA) || !slices.Equal(whole(b), beforeB) {
					t.Fatalf("%s of %s, %s: an answer shares memory", s.name, show(from), show(other))
				}
				spoil(a)
				spoil(b)
				if !same(second, want) {
					t.Errorf("%s of %s, %s: what is told has changed with them", s.name, show(from), show(other))
				}
				if third, g := s.ask(from, other); !same(third, want) || e != g {
					t.Errorf("%s of %s, %s: a later answer has changed with an earlier one", s.name, show(from), show(other))
				}
			}
		}
	}
	if told < 300 {
		t.Errorf("%d answers had numbers", told)
	}
}

// TestP17_1OneMatrixTwice: one that is handed in as both is read as two are.
func TestP17_1OneMatrixTwice(t *testing.T) {
	for _, s := range solvers() {
		for _, m := range inputs() {
			want, e := s.ask(roomy(m), roomy(m))
			if got, f := s.ask(m, m); !same(got, want) || e != f {
				t.Errorf("%s of %s twice: %s, %v; wanted %s, %v", s.name, show(m), show(got), f, show(want), e)
			}
		}
	}
}

// TestP17_1FlatChangesNothing: Flat leaves what is handed in, too, as it is, and tells the same each time.
func TestP17_1FlatChangesNothing(t *testing.T) {
	for _, from := range inputs() {
		r := roomy(from)
		before := whole(r)
		first, e := solve.Flat(r)
		second, f := solve.Flat(r)
		if first != second || e != f || !slices.Equal(whole(r), before) {
			t.Errorf("Flat of %s: %v, %v, and then %v, %v; they became %x", show(from), first, e, second, f, whole(r))
		}
	}
}
