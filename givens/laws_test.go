package givens_test

import (
	"math/big"
	"testing"

	"dioptra/api"
	"dioptra/givens"
)

// product is a times b in steps of 2^-2148, exactly.
func product(a, b api.Bits) *big.Int {
	return new(big.Int).Mul(units(a), units(b))
}

// small tells whether x is at most a part in 2^k of y, both without their signs.
func small(x, y *big.Int, k uint) bool {
	return new(big.Int).Lsh(x, k).CmpAbs(y) <= 0
}

// pairs are f and g that are neither very great nor very small: all pairs of edges, and rolled ones of like sorts and of unlike ones.
func pairs(d *dice) [][2]api.Bits {
	edges := []api.Bits{power(-400), power(-400) + 1, power(-374), power(-1), api.One - 1, api.One, api.One + 1, three, power(26), power(53), power(399), power(400) - 1, api.Zero}
	var list [][2]api.Bits
	for _, f := range edges {
		for _, g := range edges {
			list = append(list, [2]api.Bits{f, g}, [2]api.Bits{minus(f), g}, [2]api.Bits{f, minus(g)}, [2]api.Bits{minus(f), minus(g)})
		}
	}
	sorts := d.middle()
	for _, pick := range sorts {
		for _, other := range sorts {
			for range 40 {
				list = append(list, [2]api.Bits{pick(), other()})
			}
		}
		for range 400 {
			list = append(list, [2]api.Bits{pick(), pick()})
		}
	}
	return list
}

func TestP12_3One(t *testing.T) {
	d := dice(1208)
	one := product(api.One, api.One)
	for _, p := range pairs(&d) {
		c, s, _, e := givens.Turn(p[0], p[1])
		lack := new(big.Int).Add(product(c, c), product(s, s))
		if lack.Sub(lack, one); e != api.OK || !small(lack, one, 48) {
			t.Errorf("Turn(%x, %x): %x, %x, %v: their squares are not 1", p[0], p[1], c, s, e)
		}
	}
}

func TestP12_4Turned(t *testing.T) {
	d := dice(1209)
	for _, p := range pairs(&d) {
		f, g := p[0], p[1]
		c, s, r, e := givens.Turn(f, g)
		should := product(r, api.One)
		upper := new(big.Int).Add(product(c, f), product(s, g))
		lower := new(big.Int).Sub(product(c, g), product(s, f))
		if upper.Sub(upper, should); e != api.OK || !small(upper, should, 48) {
			t.Errorf("Turn(%x, %x): %x, %x, %x, %v: c f + s g is not r", f, g, c, s, r, e)
		}
		if !small(lower, should, 48) {
			t.Errorf("Turn(%x, %x): %x, %x, %x: c g - s f is not 0", f, g, c, s, r)
		}
	}
}

// square is the exact sum of a matrix's squares, in steps of 2^-2148.
func square(m api.Matrix) *big.Int {
	total := new(big.Int)
	for _, b := range m.Data {
		total.Add(total, product(b, b))
	}
	return total
}

// wantsSquare looks after the square of what became of m.
func wantsSquare(t *testing.T, m, got api.Matrix, e api.Errno) {
	t.Helper()
	lack := square(m)
	if lack.Sub(lack, square(got)); e != api.OK || !small(lack, square(m), 40) {
		t.Errorf("%x became %x, %v, and has another square", m, got, e)
	}
}

// TestP12_5SameSquare: all sizes, rows and columns, turned by what makes one of their own numbers 0, and by others.
func TestP12_5SameSquare(t *testing.T) {
	d := dice(1210)
	for _, size := range sizes() {
		for _, pick := range d.middle() {
			m := picked(size[0], size[1], pick)
			for i := range m.Rows {
				for k := range m.Rows {
					if i == k {
						continue
					}
					f, g := pick(), d.near(-400, 800)()
					if m.Cols > 0 && d.below(2) == 0 {
						f, g = m.Data[i*m.Cols], m.Data[k*m.Cols]
					}
					c, s, _, _ := givens.Turn(f, g)
					got, e := givens.Rows(m, i, k, c, s)
					wantsSquare(t, m, got, e)
					got, e = givens.Cols(sidewise(m), i, k, c, s)
					wantsSquare(t, m, got, e)
				}
			}
		}
	}
}

// TestP12_5TurnAfterTurn: a turn's own row is made r and 0, within a part of r, and what stands beside keeps its size.
func TestP12_5TurnAfterTurn(t *testing.T) {
	d := dice(1211)
	for range 2000 {
		pick := d.middle()[d.below(4)]
		m := picked(2, 3, pick)
		c, s, r, _ := givens.Turn(m.Data[0], m.Data[3])
		got, e := givens.Rows(m, 0, 1, c, s)
		wantsSquare(t, m, got, e)
		should := units(r)
		lack := units(got.Data[0])
		if lack.Sub(lack, should); !small(lack, should, 48) || !small(units(got.Data[3]), should, 48) {
			t.Errorf("%x became %x; r is %x", m, got, r)
		}
	}
}
