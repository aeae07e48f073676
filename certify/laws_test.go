package certify_test

import (
	"fmt"
	"math"
	"testing"

	"dioptra/api"
	"dioptra/certify"
)

// TestP11_3ZeroJustOfNoughts: of noughts of both signs it is 0; with the least number among them, in any place and of either sign, it is not.
func TestP11_3ZeroJustOfNoughts(t *testing.T) {
	d := dice(1131)
	for _, s := range sizes() {
		m := picked(s[0], s[1], d.out(api.Zero, api.NegZero))
		got, e := certify.Square(m)
		wants(t, fmt.Sprintf("Square(%x)", m), got, e, api.Dyadic{})
		for place, before := range m.Data {
			for _, b := range finites()[2:] {
				m.Data[place] = b
				if got, e := certify.Square(m); len(got.M.Limbs) == 0 || got.M.Neg || e != api.OK {
					t.Errorf("Square(%x): %s, %v", m, show(got), e)
				}
			}
			m.Data[place] = before
		}
	}
}

func TestP11_3RowsAsColumns(t *testing.T) {
	d := dice(1132)
	for _, s := range sizes() {
		for _, pick := range d.sorts() {
			m := picked(s[0], s[1], pick)
			want, _ := certify.Square(m)
			got, e := certify.Square(turned(m))
			wants(t, fmt.Sprintf("Square of %x turned", m), got, e, want)
		}
	}
}

// TestP11_3SignsAndPlaces: a square hangs on no signs, and is the residual from a product of nothing.
func TestP11_3SignsAndPlaces(t *testing.T) {
	d := dice(1133)
	for _, s := range sizes() {
		for _, pick := range d.sorts() {
			m, n := picked(s[0], s[1], pick), of(s[0], s[1])
			for _, b := range m.Data {
				n.Data = append(n.Data, b^api.Bits(d.roll())&api.NegZero)
			}
			want, _ := certify.Square(m)
			got, e := certify.Square(n)
			wants(t, fmt.Sprintf("Square(%x)", n), got, e, want)
			got, e = certify.Residual(m, of(s[0], 0), of(0, s[1]))
			wants(t, fmt.Sprintf("%x less nothing", m), got, e, want)
		}
	}
}

// TestP11_4ItselfTimesEye: with Eye on either side, whatever the numbers.
func TestP11_4ItselfTimesEye(t *testing.T) {
	d := dice(1134)
	for _, s := range sizes() {
		for _, pick := range d.sorts() {
			m := picked(s[0], s[1], pick)
			got, e := certify.Residual(m, m, eye(s[1]))
			wants(t, fmt.Sprintf("%x less itself times Eye", m), got, e, api.Dyadic{})
			got, e = certify.Residual(m, eye(s[0]), m)
			wants(t, fmt.Sprintf("%x less Eye times itself", m), got, e, api.Dyadic{})
			got, e = certify.Gradient(eye(s[0]), m, m)
			wants(t, fmt.Sprintf("Gradient of Eye and %x", m), got, e, api.Dyadic{})
		}
	}
}

// TestP11_4OneDigitMore: where one number is the next one, the residual is not 0 but the square of the difference.
func TestP11_4OneDigitMore(t *testing.T) {
	for _, s := range sizes() {
		m := filled(s[0], s[1], three)
		for place := range m.Data {
			m.Data[place] = three + 1
			got, e := certify.Residual(m, filled(s[0], s[1], three), eye(s[1]))
			wants(t, "one number more", got, e, number(1, -102))
			m.Data[place] = three
		}
	}
}

func TestP11_5RowsAsColumns(t *testing.T) {
	d := dice(1135)
	for _, s := range triples() {
		m := d.product(s[0], s[1], s[2])
		want, _ := certify.Rank(m)
		wantsRank(t, turned(m), want)
	}
	for _, s := range sizes() {
		for _, pick := range d.sorts() {
			m := picked(s[0], s[1], pick)
			want, _ := certify.Rank(m)
			wantsRank(t, turned(m), want)
		}
	}
}

// scaled is m with row i times 2^n, and whether all numbers are still exactly so.
func scaled(m api.Matrix, i, n int) (api.Matrix, bool) {
	list := of(m.Rows, m.Cols)
	for place, b := range m.Data {
		if place/m.Cols == i {
			f := math.Ldexp(float(b), n)
			if math.IsInf(f, 0) || math.Ldexp(f, -n) != float(b) {
				return api.Matrix{}, false
			}
			b = api.Bits(math.Float64bits(f))
		}
		list.Data = append(list.Data, b)
	}
	return list, true
}

func TestP11_5RowTimesPowerOfTwo(t *testing.T) {
	d := dice(1136)
	asked := 0
	for _, s := range triples() {
		m := d.product(s[0], s[1], s[2])
		want, _ := certify.Rank(m)
		for i := range m.Rows {
			for _, n := range []int{1, -1, 60, -60, d.below(1900) - 950} {
				if other, ok := scaled(m, i, n); ok {
					asked++
					wantsRank(t, other, want)
				}
			}
		}
	}
	if asked < 2000 {
		t.Errorf("but %d were asked", asked)
	}
}

// TestP11_5RowTimesTheGreatest: from the least power of two to the greatest one.
func TestP11_5RowTimesTheGreatest(t *testing.T) {
	for n := range 1024 + 1074 {
		f := math.Ldexp(1, n-1074)
		b, twice := api.Bits(math.Float64bits(f)), api.Bits(math.Float64bits(2*f))
		if math.IsInf(2*f, 0) {
			break
		}
		wantsRank(t, of(2, 2, api.One, two, b, twice), 1)
		wantsRank(t, of(2, 2, api.One, two, twice, b), 2)
	}
}
