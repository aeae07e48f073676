// Package mirrors has what layers 14 and 16 do alike: a column of a matrix mirrored till it is Zero below the diagonal, and all such mirrors brought together in one matrix whose columns stand upright on one another.
package mirrors

import (
	"dioptra/api"
	"dioptra/house"
	"dioptra/matrix"
	"dioptra/soft"
)

// Mirror is one that house made; beta is left out, as it stands in the matrix that was mirrored.
type Mirror struct {
	v   []api.Bits
	tau api.Bits
}

// Down is a right matrix r mirrored, from row and column j on, by the mirror of its column j from row j on, which stands beside it: r has a row j and a column j. ErrRange, if there is no such mirror.
func Down(r api.Matrix, j int) (api.Matrix, Mirror, api.Errno) {
	column, _ := matrix.Part(r, j, j, r.Rows-j, 1) // no error: it lies in r
	v, tau, beta, e := house.Make(column.Data)
	if e != api.OK { // ErrFinite too: who begins with finite numbers has it of a mirror before that made what is too great
		return api.Matrix{}, Mirror{}, api.ErrRange
	}
	next, _ := house.Apply(r, j, j, v, tau) // no error: v is as long as the column
	settle(next, j, beta)
	return next, Mirror{v, tau}, api.OK
}

// settle puts into column j of r, from its diagonal on, what it is to be: mirrored it is that but for some roundings.
func settle(r api.Matrix, j int, beta api.Bits) {
	r.Data[j*r.Cols+j] = beta
	for i := j + 1; i < r.Rows; i++ {
		r.Data[i*r.Cols+j] = api.Zero
	}
}

// Upright is Eye of n rows, mirrored by all mirrors, the last one first: mirror j has n - j numbers, and n is at most MaxDim.
func Upright(n int, mirrors []Mirror) api.Matrix {
	q, _ := matrix.Eye(n) // no error: n is in its range
backwards:
	for j := len(mirrors) - 1; j >= 0; j-- {
		q, _ = house.Apply(q, j, 0, mirrors[j].v, mirrors[j].tau) // no error: its rows lie in q
		for _, b := range q.Data {
			if !soft.Finite(b) {
				break backwards // no mirror makes it finite again
			}
		}
	}
	return q
}
