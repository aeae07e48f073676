package givens

import (
	"dioptra/api"
	"dioptra/compare"
	"dioptra/plain"
	"dioptra/vector"
)

// line is where a row's or a column's numbers lie in a matrix: the first one, how far each is from the one before, and how many there are.
type line struct {
	first, step, count int
}

// rowOf is row i of a right matrix that has it.
func rowOf(m api.Matrix, i int) line {
	return line{first: i * m.Cols, step: 1, count: m.Cols}
}

// columnOf is column k of a right matrix that has it.
func columnOf(m api.Matrix, k int) line {
	return line{first: k, step: m.Cols, count: m.Rows}
}

// place is where the number n of a line lies.
func (l line) place(n int) int {
	return l.first + n*l.step
}

// turned is a copy of m, with the numbers of two lines that are as long as each other turned, pair by pair.
func turned(m api.Matrix, upper, lower line, c, s api.Bits) api.Matrix {
	data := make([]api.Bits, len(m.Data))
	copy(data, m.Data)
	for n := range upper.count {
		i, k := upper.place(n), lower.place(n)
		data[i], data[k] = turnedPair(data[i], data[k], c, s)
	}
	return api.Matrix{Rows: m.Rows, Cols: m.Cols, Data: data}
}

// turnedPair is c x + s y, and c y - s x.
func turnedPair(x, y, c, s api.Bits) (api.Bits, api.Bits) {
	return plain.Add(plain.Mul(c, x), plain.Mul(s, y)), plain.Sub(plain.Mul(c, y), plain.Mul(s, x))
}

// turnOf is the turn of two finite numbers of which none is a nought. Times 2^-k no square is too great, and the greater one is not too small.
func turnOf(f, g api.Bits) (c, s, r api.Bits) {
	k := compare.Exp(vector.Biggest([]api.Bits{f, g}))
	a, b := plain.Scale(f, -k), plain.Scale(g, -k)
	n := plain.Sqrt(plain.Add(plain.Mul(a, a), plain.Mul(b, b)))
	return plain.Div(a, n), plain.Div(b, n), plain.Scale(n, k)
}
