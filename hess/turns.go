package hess

import (
	"dioptra/api"
	"dioptra/givens"
	"dioptra/matrix"
	"dioptra/qr"
	"dioptra/vector"
)

// begun is what turns are made of, for square matrices of one size that may be asked: b's factors q and t, q turned times a, and Eye. ErrRange, if b has no factors.
func begun(a, b api.Matrix) (Four, api.Errno) {
	q, t, e := qr.Factor(b)
	if e != api.OK {
		return Four{}, e
	}
	h, _ := qr.Turned(q, a)    // no error: q has as many rows as a
	z, _ := matrix.Eye(a.Rows) // no error: a is right
	return Four{H: h, T: t, Q: q, Z: z}, api.OK
}

// turned is the four with h's columns made Zero from below, number by number, but for one row below the diagonal, while t stays 0 below its own; and whether all turns could be made.
func turned(four Four) (Four, bool) {
	n, made := four.H.Rows, true
columns:
	for j := range n - 2 {
		for i := n - 1; i > j+1; i-- {
			if four, made = rowsTurned(four, i, j); !made {
				break columns
			}
			if four, made = columnsTurned(four, i); !made {
				break columns
			}
		}
	}
	clean(four.H, 1)
	clean(four.T, 0)
	return four, made
}

// rowsTurned is the four with rows i - 1 and i turned, so that h's number at i, j is Zero, and q's columns against them; false, if there is no such turn.
func rowsTurned(four Four, i, j int) (Four, bool) {
	upper, lower := place(four.H, i-1, j), place(four.H, i, j)
	c, s, r, e := givens.Turn(four.H.Data[upper], four.H.Data[lower])
	if e != api.OK {
		return Four{}, false
	}
	four.H, _ = givens.Rows(four.H, i-1, i, c, s) // no errors: all have rows and columns i - 1 and i
	four.T, _ = givens.Rows(four.T, i-1, i, c, s)
	four.Q, _ = givens.Cols(four.Q, i-1, i, c, s)
	four.H.Data[upper], four.H.Data[lower] = r, api.Zero
	return four, true
}

// columnsTurned is the four with columns i and i - 1 turned, so that t's number at i, i - 1, which a turn of rows has made, is Zero again; false, if there is no such turn.
func columnsTurned(four Four, i int) (Four, bool) {
	right, left := place(four.T, i, i), place(four.T, i, i-1)
	c, s, r, e := givens.Turn(four.T.Data[right], four.T.Data[left])
	if e != api.OK {
		return Four{}, false
	}
	four.T, _ = givens.Cols(four.T, i, i-1, c, s) // no errors: all have columns i and i - 1
	four.H, _ = givens.Cols(four.H, i, i-1, c, s)
	four.Z, _ = givens.Cols(four.Z, i, i-1, c, s)
	four.T.Data[right], four.T.Data[left] = r, api.Zero
	return four, true
}

// clean puts Zero into m wherever it lies more than so many rows below the diagonal: turns leave noughts there, of either sign.
func clean(m api.Matrix, rows int) {
	for i := range m.Rows {
		for j := range i - rows {
			m.Data[place(m, i, j)] = api.Zero
		}
	}
}

// finite tells whether all numbers of the four are.
func finite(four Four) bool {
	for _, m := range [...]api.Matrix{four.H, four.T, four.Q, four.Z} {
		if !vector.Finite(m.Data) {
			return false
		}
	}
	return true
}
