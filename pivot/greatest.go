package pivot

import (
	"dioptra/api"
	"dioptra/compare"
	"dioptra/matrix"
	"dioptra/mirrors"
	"dioptra/soft"
	"dioptra/vector"
)

// triangle is a matrix that may be asked, mirrored column by column till all below its diagonal is Zero, each time the greatest column that is left; the places that its columns come from; and the mirrors, in order. ErrRange, if a norm is not finite, or a mirror can't be made.
func triangle(a api.Matrix) (api.Matrix, []int, []mirrors.Mirror, api.Errno) {
	r, _ := matrix.Part(a, 0, 0, a.Rows, a.Cols) // no error: it is the whole
	places := inOrder(a.Cols)
	var made []mirrors.Mirror
	for j := range min(a.Cols, a.Rows) {
		k, e := greatest(r, j)
		if e != api.OK {
			return api.Matrix{}, nil, nil, e
		}
		r.Data, places = changed(r.Data, a.Cols, j, k), changed(places, a.Cols, j, k)
		if j == a.Rows-1 { // there is nothing below the last row
			break
		}
		next, mirror, e := mirrors.Down(r, j)
		if e != api.OK {
			return api.Matrix{}, nil, nil, e
		}
		r, made = next, append(made, mirror)
	}
	return r, places, made, api.OK
}

// inOrder is the places from 0 to n - 1.
func inOrder(n int) []int {
	places := make([]int, n)
	for k := range places {
		places[k] = k
	}
	return places
}

// greatest is the first one of r's columns from j on whose norm from row j on is greatest: ErrRange, if one of these norms is not finite.
func greatest(r api.Matrix, j int) (int, api.Errno) {
	place, keep := j, keeper(j)
	for k := j; k < r.Cols; k++ {
		column, _ := matrix.Part(r, j, k, r.Rows-j, 1) // no error: it lies in r
		norm, _ := vector.Norm(column.Data)            // no error: MaxDim is below MaxLong
		if !soft.Finite(norm) {
			return 0, api.ErrRange
		}
		place = keep(k, norm)
	}
	return place, api.OK
}

// keeper is handed places, from first on, with their norms, and tells each time which of those so far is greatest, the first one of such as are as much.
func keeper(first int) func(place int, norm api.Bits) int {
	best, most := first, api.Zero // no norm is less
	return func(place int, norm api.Bits) int {
		if compare.Less(most, norm) {
			best, most = place, norm
		}
		return best
	}
}

// changed is a copy of a list of rows, all of so many columns, with columns j and k at one another's places.
func changed[T any](rows []T, cols, j, k int) []T {
	list := make([]T, len(rows))
	copy(list, rows)
	for from := 0; from < len(list); from += cols {
		list[from+j], list[from+k] = list[from+k], list[from+j]
	}
	return list
}

// onDiagonal is the number in row and column j of a right matrix that has them, without its sign.
func onDiagonal(r api.Matrix, j int) api.Bits {
	return compare.Abs(r.Data[j*r.Cols+j])
}
