package matrix_test

import (
	"fmt"
	"testing"

	"dioptra/api"
	"dioptra/matrix"
)

// TestP10_3TurnedTwice: what is handed on is as it was, no number too.
func TestP10_3TurnedTwice(t *testing.T) {
	d := dice(107)
	for _, s := range sizes() {
		for _, pick := range d.sorts() {
			m := picked(s[0], s[1], pick)
			again, e := matrix.Turn(must(matrix.Turn(m)))
			wants(t, "turned twice", again, e, m)
		}
	}
}

// TestP10_3ProductTurned: whatever the numbers, as the factors of each product may change their places.
func TestP10_3ProductTurned(t *testing.T) {
	d := dice(108)
	sorts := d.sorts()
	for _, s := range triples() {
		for _, pick := range sorts {
			a, b := picked(s[0], s[1], pick), picked(s[1], s[2], sorts[d.below(len(sorts))])
			want := must(matrix.Turn(must(matrix.Mul(a, b))))
			got, e := matrix.Mul(must(matrix.Turn(b)), must(matrix.Turn(a)))
			wants(t, fmt.Sprintf("%x and %x turned", a, b), got, e, want)
		}
	}
}

// TestP10_3StackTurned: what lies on one another lies, turned, beside one another.
func TestP10_3StackTurned(t *testing.T) {
	for _, s := range sizes() {
		for n := range api.MaxDim - s[0] + 1 {
			a, b := counted(s[0], s[1]), counted(n, s[1])
			want := must(matrix.Turn(must(matrix.Stack(a, b))))
			got, e := matrix.Beside(must(matrix.Turn(a)), must(matrix.Turn(b)))
			wants(t, "a stack turned", got, e, want)
		}
	}
}

// TestP10_3SubTurned: a difference turned is that of the turned ones.
func TestP10_3SubTurned(t *testing.T) {
	d := dice(111)
	for _, s := range sizes() {
		for _, pick := range d.sorts() {
			a, b := picked(s[0], s[1], pick), picked(s[0], s[1], pick)
			want := must(matrix.Turn(must(matrix.Sub(a, b))))
			got, e := matrix.Sub(must(matrix.Turn(a)), must(matrix.Turn(b)))
			wants(t, "a difference turned", got, e, want)
		}
	}
}

// TestP10_4PutTogetherAgain: cut between any two rows and columns, at the ends too, and put together in both ways.
func TestP10_4PutTogetherAgain(t *testing.T) {
	for _, m := range corners() {
		for i := range m.Rows + 1 {
			for k := range m.Cols + 1 {
				below, right := m.Rows-i, m.Cols-k
				a, b := must(matrix.Part(m, 0, 0, i, k)), must(matrix.Part(m, 0, k, i, right))
				c, d := must(matrix.Part(m, i, 0, below, k)), must(matrix.Part(m, i, k, below, right))
				rows, e := matrix.Stack(must(matrix.Beside(a, b)), must(matrix.Beside(c, d)))
				wants(t, fmt.Sprintf("rows cut at %d, %d", i, k), rows, e, m)
				cols, e := matrix.Beside(must(matrix.Stack(a, c)), must(matrix.Stack(b, d)))
				wants(t, fmt.Sprintf("columns cut at %d, %d", i, k), cols, e, m)
			}
		}
	}
}

// TestP10_4OneByOne: from single rows and columns on, and from nothing on.
func TestP10_4OneByOne(t *testing.T) {
	for _, m := range corners() {
		rows, cols := of(0, m.Cols), of(m.Rows, 0)
		for i := range m.Rows {
			rows = must(matrix.Stack(rows, must(matrix.Part(m, i, 0, 1, m.Cols))))
		}
		for k := range m.Cols {
			cols = must(matrix.Beside(cols, must(matrix.Part(m, 0, k, m.Rows, 1))))
		}
		wants(t, "row by row", rows, api.OK, m)
		wants(t, "column by column", cols, api.OK, m)
	}
}

// TestP10_4PartsOfAStack: what was put together is cut off it again.
func TestP10_4PartsOfAStack(t *testing.T) {
	d := dice(109)
	for _, s := range sizes() {
		for n := range api.MaxDim - s[0] + 1 {
			a, b := picked(s[0], s[1], d.out(all())), picked(n, s[1], d.out(all()))
			stack := must(matrix.Stack(a, b))
			top, e := matrix.Part(stack, 0, 0, s[0], s[1])
			wants(t, "the upper part", top, e, a)
			bottom, e := matrix.Part(stack, s[0], 0, n, s[1])
			wants(t, "the lower part", bottom, e, b)
		}
	}
}

// noNegZero are numbers of a sort, NegZero among them left out.
func noNegZero(pick func() api.Bits) func() api.Bits {
	return func() api.Bits {
		b := pick()
		for b == api.NegZero {
			b = pick()
		}
		return b
	}
}

func TestP10_5EyeTimes(t *testing.T) {
	d := dice(110)
	for _, s := range sizes() {
		for _, pick := range []func() api.Bits{d.near(-3, 6), d.near(-1022, 2046), d.near(1020, 4), noNegZero(d.out(finites()))} {
			m := picked(s[0], s[1], pick)
			got, e := matrix.Mul(must(matrix.Eye(s[0])), m)
			wants(t, "Eye times", got, e, m)
		}
		zeros := must(matrix.Zeros(s[0], s[1]))
		got, e := matrix.Mul(must(matrix.Eye(s[0])), zeros)
		wants(t, "Eye times Zeros", got, e, zeros)
	}
}

// TestP10_5EyeTimesOthers: why noughts below 0, and what is not finite, are left out: sums begin at Zero, and Zero times Inf is no number.
func TestP10_5EyeTimesOthers(t *testing.T) {
	eye := must(matrix.Eye(2))
	wantsMul(t, eye, of(2, 2, api.NegZero, three, four, api.NegZero), of(2, 2, api.Zero, three, four, api.Zero))
	wantsMul(t, eye, of(2, 2, api.Inf, three, four, five), of(2, 2, api.Inf, three, api.NaN, five))
	wantsMul(t, eye, of(2, 2, two, three, four, api.NaN+7), of(2, 2, two, api.NaN, four, api.NaN))
}
