package matrix_test

import (
	"math"
	"slices"
	"testing"

	"dioptra/api"
	"dioptra/matrix"
)

const mark = api.Bits(0xdeadbeefdeadbeef)

// roomy is a copy of m with marks in the room behind its numbers' end.
func roomy(m api.Matrix) api.Matrix {
	n := len(m.Data)
	m.Data = append(slices.Clone(m.Data), mark, mark, mark)[:n]
	return m
}

// whole is a copy of m's numbers, with the room behind their end.
func whole(m api.Matrix) []api.Bits {
	return slices.Clone(m.Data[:cap(m.Data)])
}

// call is one of the calls that tell a matrix, with what else it is handed.
type call func(a, b api.Matrix) (api.Matrix, api.Errno)

// calls are all of them, at the edges at which a matrix could be handed on as it is.
func calls() []call {
	list := []call{
		matrix.Mul, matrix.Sub, matrix.Stack, matrix.Beside,
		func(a, _ api.Matrix) (api.Matrix, api.Errno) { return matrix.Turn(a) },
		func(a, b api.Matrix) (api.Matrix, api.Errno) { return matrix.Zeros(a.Rows, b.Cols) },
		func(a, _ api.Matrix) (api.Matrix, api.Errno) { return matrix.Eye(a.Rows) },
	}
	for _, p := range [][4]int{{}, {0, 0, 1, 1}, {1, 1, 1, 1}, {1, 0, 2, 1}, {0, 1, 1, 2}, {-1, 0, 1, 1}, {0, 0, 9, 9}} {
		list = append(list, func(a, _ api.Matrix) (api.Matrix, api.Errno) { return matrix.Part(a, p[0], p[1], p[2], p[3]) })
	}
	return append(list,
		func(a, _ api.Matrix) (api.Matrix, api.Errno) { return matrix.Part(a, 0, 0, a.Rows, a.Cols) },
		func(a, _ api.Matrix) (api.Matrix, api.Errno) { return matrix.Part(a, 0, 0, a.Rows-1, a.Cols) },
	)
}

// inputs are matrices of several sizes, some that are not right, and such as leave others as they are.
func inputs() []api.Matrix {
	d := dice(112)
	list := []api.Matrix{{}, of(0, 3), of(3, 0), must(matrix.Zeros(3, 3)), must(matrix.Eye(3)), must(matrix.Eye(1)), of(2, 2, ones(3)...), of(2, 2, ones(5)...), of(-1, -1, api.One), of(7, 1, ones(7)...), of(math.MinInt, 2)}
	for _, s := range [][2]int{{1, 1}, {1, 3}, {3, 1}, {3, 3}, {2, 3}, {3, 2}, {6, 6}} {
		list = append(list, picked(s[0], s[1], d.near(-3, 6)), picked(s[0], s[1], d.out(all())))
	}
	return list
}

func TestP10_2NothingHandedInChanges(t *testing.T) {
	for _, from := range inputs() {
		for _, other := range inputs() {
			a, b := roomy(from), roomy(other)
			beforeA, beforeB := whole(a), whole(b)
			for i, c := range calls() {
				m, e := c(a, b)
				matrix.Check(a)
				matrix.At(a, 0, 0)
				if !slices.Equal(whole(a), beforeA) || !slices.Equal(whole(b), beforeB) {
					t.Fatalf("call %d: %x and %x became %x and %x", i, beforeA, beforeB, whole(a), whole(b))
				}
				if again, f := c(a, b); !same(m, again) || e != f {
					t.Errorf("call %d: %x, %v, and then %x, %v", i, m, e, again, f)
				}
			}
		}
	}
}

// spoil writes over a matrix's numbers and the room behind their end.
func spoil(m api.Matrix) {
	for i := range cap(m.Data) {
		m.Data[:cap(m.Data)][i] = mark
	}
}

// wantsApart looks after answers of one call, of which none may share memory with another, or with a and b.
func wantsApart(t *testing.T, c call, a, b api.Matrix) {
	t.Helper()
	beforeA, beforeB := whole(a), whole(b)
	first, _ := c(a, b)
	second, _ := c(a, b)
	should := slices.Clone(second.Data)
	spoil(first)
	if !slices.Equal(whole(a), beforeA) || !slices.Equal(whole(b), beforeB) {
		t.Fatalf("what is answered shares memory with %x or %x", beforeA, beforeB)
	}
	if !slices.Equal(second.Data, should) {
		t.Errorf("two answers of %x and %x share memory", beforeA, beforeB)
	}
	spoil(a)
	spoil(b)
	if !slices.Equal(second.Data, should) {
		t.Errorf("what is answered has changed with %x or %x", beforeA, beforeB)
	}
	if third, e := c(roomy(of(a.Rows, a.Cols, beforeA[:len(a.Data)]...)), roomy(of(b.Rows, b.Cols, beforeB[:len(b.Data)]...))); e == api.OK && !slices.Equal(third.Data, should) {
		t.Errorf("a later answer of %x and %x has changed with an earlier one", beforeA, beforeB)
	}
}

func TestP10_2NewMemory(t *testing.T) {
	for _, from := range inputs() {
		for _, other := range inputs() {
			for _, c := range calls() {
				wantsApart(t, c, roomy(from), roomy(other))
			}
		}
	}
}

// TestP10_2OneMatrixTwice: one that is handed in twice, or whose numbers overlap the other's, is read as two are.
func TestP10_2OneMatrixTwice(t *testing.T) {
	d := dice(113)
	for _, pick := range []func() api.Bits{d.near(-3, 6), d.out(all())} {
		long := picked(6, 6, pick).Data
		before := slices.Clone(long)
		for _, from := range []int{0, 1, 3, 9} {
			a, b := of(3, 3, long[:9]...), of(3, 3, long[from:from+9]...)
			for i, c := range calls() {
				apart, e := c(roomy(a), roomy(b))
				if got, f := c(a, b); !same(got, apart) || e != f {
					t.Errorf("call %d of %x and %x: %x, %v; wanted %x, %v", i, a, b, got, f, apart, e)
				}
			}
		}
		if !slices.Equal(long, before) {
			t.Errorf("%x became %x", before, long)
		}
	}
}
