package svd

import (
	"dioptra/api"
	"dioptra/compare"
	"dioptra/givens"
	"dioptra/matrix"
	"dioptra/plain"
	"dioptra/soft"
)

// smallPower: a column is let be, if its norm is no greater than that of all times 2^smallPower; a pair, if its inner product is no greater than the product of its norms times that.
const smallPower = -44

// turned is w with its columns turned, and Eye with its columns turned with them, round by round till there is nothing to be turned; false, if that has not come within so many rounds.
func turned(w api.Matrix, rounds int) (api.Matrix, api.Matrix, bool) {
	v, _ := matrix.Eye(w.Cols) // no error: w is right
	low := plain.Scale(norm(w.Data), smallPower)
	for range rounds {
		var still bool
		w, v, still = round(w, v, low)
		if still {
			return w, v, true
		}
	}
	return w, v, false
}

// round is w and v with the columns of each pair turned that does not stand upright; and whether there was none.
func round(w, v api.Matrix, low api.Bits) (api.Matrix, api.Matrix, bool) {
	still := true
columns:
	for p := range w.Cols {
		for q := p + 1; q < w.Cols; q++ {
			one, other := column(w, p), column(w, q)
			x, y, g := norm(one), norm(other), dot(one, other)
			if !compare.Less(low, x) {
				continue columns // nothing turns column p any more in this round, so that its other pairs are let be as well
			}
			if !compare.Less(low, y) || !compare.Less(plain.Scale(plain.Mul(x, y), smallPower), compare.Abs(g)) {
				continue
			}
			c, s := turnOf(one, other, g)
			w, _ = givens.Cols(w, p, q, c, soft.Minus(s)) // no errors: both have columns p and q
			v, _ = givens.Cols(v, p, q, c, soft.Minus(s))
			still = false
		}
	}
	return w, v, still
}

// turnOf is c and s of the turn by which two columns come to stand upright on one another, of the two that do so the lesser one; g is their inner product.
func turnOf(one, other []api.Bits, g api.Bits) (c, s api.Bits) {
	z := plain.Div(plain.Sub(dot(other, other), dot(one, one)), plain.Add(g, g))
	t := plain.Div(api.One, plain.Add(compare.Abs(z), plain.Sqrt(plain.Add(api.One, plain.Mul(z, z)))))
	if soft.Sign(z) { // z may be NegZero
		t = soft.Minus(t)
	}
	c = plain.Div(api.One, plain.Sqrt(plain.Add(api.One, plain.Mul(t, t))))
	return c, plain.Mul(c, t)
}
