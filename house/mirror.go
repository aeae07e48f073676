package house

import (
	"dioptra/api"
	"dioptra/matrix"
	"dioptra/plain"
	"dioptra/soft"
	"dioptra/vector"
)

// oneAnd is a new list: One, and then what number says of each of rest.
func oneAnd(rest []api.Bits, number func(b api.Bits) api.Bits) []api.Bits {
	v := make([]api.Bits, 0, 1+len(rest))
	v = append(v, api.One)
	for _, b := range rest {
		v = append(v, number(b))
	}
	return v
}

// betaOf is the norm of x, not all of whose numbers are noughts, with the other sign than that of the first one that is none: so the first number less beta loses no digits.
func betaOf(x []api.Bits) api.Bits {
	mu, _ := vector.Norm(x) // no error: x is not too long
	if belowZero(x) {
		return mu
	}
	return soft.Minus(mu)
}

// belowZero tells the sign of the first of x's numbers that is no nought.
func belowZero(x []api.Bits) bool {
	for _, b := range x {
		if soft.Kind(b) != api.KZero {
			return soft.Sign(b)
		}
	}
	return false
}

// mirrored is a copy of m, with each column from k on mirrored from row i on; the rows of v's numbers lie in m.
func mirrored(m api.Matrix, i, k int, v []api.Bits, tau api.Bits) api.Matrix {
	data := make([]api.Bits, len(m.Data))
	copy(data, m.Data)
	for c := k; c < m.Cols; c++ {
		column, _ := matrix.Part(m, i, c, len(v), 1) // no error: it lies in m
		number := image(column.Data, v, tau)
		for j := range v {
			data[(i+j)*m.Cols+c] = number(j)
		}
	}
	return api.Matrix{Rows: m.Rows, Cols: m.Cols, Data: data}
}

// image says of each place what number x, mirrored by v and tau, has there; both are of one length.
func image(x, v []api.Bits, tau api.Bits) func(j int) api.Bits {
	w, _ := vector.Dot(v, x) // no error: MaxDim is below MaxLong
	t := plain.Mul(tau, w)
	return func(j int) api.Bits { return plain.Sub(x[j], plain.Mul(t, v[j])) }
}
