package svd

import (
	"slices"

	"dioptra/api"
	"dioptra/compare"
	"dioptra/matrix"
	"dioptra/plain"
	"dioptra/vector"
)

// column is column k of a right matrix that has it.
func column(m api.Matrix, k int) []api.Bits {
	part, _ := matrix.Part(m, 0, k, m.Rows, 1) // no error: it lies in m
	return part.Data
}

// dot is the inner product of two columns of one matrix.
func dot(one, other []api.Bits) api.Bits {
	d, _ := vector.Dot(one, other) // no error: they are of one length, and MaxDim is below MaxLong
	return d
}

// norm is that of a column, or of all of a matrix's numbers.
func norm(numbers []api.Bits) api.Bits {
	n, _ := vector.Norm(numbers) // no error: MaxDim times MaxDim is below MaxLong
	return n
}

// norms are those of a right matrix's columns.
func norms(m api.Matrix) []api.Bits {
	list := make([]api.Bits, m.Cols)
	for k := range list {
		list[k] = norm(column(m, k))
	}
	return list
}

// shifted is a right matrix with each number times 2^k.
func shifted(m api.Matrix, k int) api.Matrix {
	data := make([]api.Bits, len(m.Data))
	for i, b := range m.Data {
		data[i] = plain.Scale(b, k)
	}
	return api.Matrix{Rows: m.Rows, Cols: m.Cols, Data: data}
}

// order is the places of columns of such sizes, the greatest ones first, of such as are as great the one with the lesser place.
func order(sizes []api.Bits) []int {
	places := make([]int, len(sizes))
	for k := range places {
		places[k] = k
	}
	slices.SortStableFunc(places, func(i, k int) int {
		side, _ := compare.Order(sizes[k], sizes[i]) // turned round, as the greatest one is to be first
		return side
	})
	return places
}
