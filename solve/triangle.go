package solve

import (
	"slices"

	"dioptra/api"
	"dioptra/certify"
	"dioptra/matrix"
	"dioptra/plain"
	"dioptra/soft"
)

// count is how many rows a triangle has; its methods say which of them is reckoned at each step.
type count int

func (count) fromFirst(step int) int { return step }

func (n count) fromLast(step int) int { return int(n) - 1 - step }

// checked is certify.Check's error of a, else that of b.
func checked(a, b api.Matrix) api.Errno {
	if e := certify.Check(a); e != api.OK {
		return e
	}
	return certify.Check(b)
}

// diagonal is the numbers of a right matrix at which row and column are the same.
func diagonal(m api.Matrix) []api.Bits {
	numbers := make([]api.Bits, min(m.Rows, m.Cols))
	for i := range numbers {
		numbers[i] = m.Data[i*m.Cols+i]
	}
	return numbers
}

// solved is x with t x = b, or the error that Upper and Lower have: order says which row is reckoned at each step, done which rows k are before row i.
func solved(t, b api.Matrix, order func(step int) int, done func(i, k int) bool) (api.Matrix, api.Errno) {
	if e := checked(t, b); e != api.OK {
		return api.Matrix{}, e
	}
	if t.Rows != t.Cols || t.Rows != b.Rows {
		return api.Matrix{}, api.ErrShape
	}
	if slices.ContainsFunc(diagonal(t), func(n api.Bits) bool { return soft.Kind(n) == api.KZero }) {
		return api.Matrix{}, api.ErrRank
	}
	x, finite := through(t, b, order, done)
	if !finite {
		return api.Matrix{}, api.ErrRange
	}
	return x, api.OK
}

// through is solved of matrices that go together, and whether all its numbers are finite; what lies behind the first one that is not is left out.
func through(t, b api.Matrix, order func(step int) int, done func(i, k int) bool) (api.Matrix, bool) {
	x, _ := matrix.Zeros(b.Rows, b.Cols) // no error: b is right
	finite := true
columns:
	for c := range b.Cols {
		for step := range t.Rows {
			i := order(step)
			s := b.Data[i*b.Cols+c]
			for k := range t.Rows {
				if done(i, k) {
					s = plain.Sub(s, plain.Mul(t.Data[i*t.Cols+k], x.Data[k*b.Cols+c]))
				}
			}
			number := plain.Div(s, t.Data[i*t.Cols+i])
			x.Data[i*b.Cols+c] = number
			if finite = soft.Finite(number); !finite {
				break columns // one is enough
			}
		}
	}
	return x, finite
}
