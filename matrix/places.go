package matrix

import (
	"dioptra/api"
)

// build is a new matrix, whose numbers are what number says of their places.
func build(rows, cols int, number func(i, k int) api.Bits) api.Matrix {
	data := make([]api.Bits, 0, rows*cols)
	for i := range rows {
		for k := range cols {
			data = append(data, number(i, k))
		}
	}
	return api.Matrix{Rows: rows, Cols: cols, Data: data}
}

// inRange tells whether a matrix may have so many rows and columns.
func inRange(rows, cols int) bool {
	return 0 <= rows && rows <= api.MaxDim && 0 <= cols && cols <= api.MaxDim
}

// right tells whether all of these matrices are.
func right(matrices ...api.Matrix) bool {
	for _, m := range matrices {
		if Check(m) != api.OK {
			return false
		}
	}
	return true
}

// lies tells whether there are so many places from one on, all of them below end. It takes off from end, as a sum could wrap round.
func lies(from, places, end int) bool {
	return 0 <= from && 0 <= places && places <= end-from
}

// size is how many rows and columns m has.
func size(m api.Matrix) [2]int {
	return [2]int{m.Rows, m.Cols}
}

// at is the number in row i and column k of a right matrix that has them.
func at(m api.Matrix, i, k int) api.Bits {
	return m.Data[i*m.Cols+k]
}

// row is row i of a right matrix, in that matrix's own memory: it is read alone, and not handed out.
func row(m api.Matrix, i int) []api.Bits {
	return m.Data[i*m.Cols : (i+1)*m.Cols]
}

// turned is a right matrix with its rows as columns.
func turned(m api.Matrix) api.Matrix {
	return build(m.Cols, m.Rows, func(i, k int) api.Bits { return at(m, k, i) })
}
