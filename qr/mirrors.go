package qr

import (
	"dioptra/api"
	"dioptra/house"
	"dioptra/matrix"
	"dioptra/soft"
)

// mirror is one that house made; beta is left out, as it stands in r.
type mirror struct {
	v   []api.Bits
	tau api.Bits
}

// triangle is a matrix that may be asked, mirrored column by column till all below its diagonal is Zero, and its mirrors, in order; ErrRange, if one can't be made.
func triangle(a api.Matrix) (api.Matrix, []mirror, api.Errno) {
	r, _ := matrix.Part(a, 0, 0, a.Rows, a.Cols) // no error: it is the whole
	var mirrors []mirror
	for j := range min(a.Cols, a.Rows-1) {
		column, _ := matrix.Part(r, j, j, r.Rows-j, 1) // no error: it lies in r
		v, tau, beta, e := house.Make(column.Data)
		if e != api.OK { // ErrFinite too: a is finite, so that it was a mirror before that made what is too great
			return api.Matrix{}, nil, api.ErrRange
		}
		r, _ = house.Apply(r, j, j, v, tau) // no error: v is as long as the column
		settle(r, j, beta)
		mirrors = append(mirrors, mirror{v, tau})
	}
	return r, mirrors, api.OK
}

// settle puts into column j of r, from its diagonal on, what it is to be: mirrored it is that but for some roundings.
func settle(r api.Matrix, j int, beta api.Bits) {
	r.Data[j*r.Cols+j] = beta
	for i := j + 1; i < r.Rows; i++ {
		r.Data[i*r.Cols+j] = api.Zero
	}
}

// upright is Eye of n rows, mirrored by all mirrors, the last one first: mirror j has n - j numbers.
func upright(n int, mirrors []mirror) api.Matrix {
	q, _ := matrix.Eye(n) // no error: a right matrix has n rows
backwards:
	for j := len(mirrors) - 1; j >= 0; j-- {
		q, _ = house.Apply(q, j, 0, mirrors[j].v, mirrors[j].tau) // no error: its rows lie in q
		for _, b := range q.Data {
			if !soft.Finite(b) {
				break backwards // no mirror makes it finite again
			}
		}
	}
	return q
}
