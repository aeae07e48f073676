package pivot_test

import (
	"math"
	"slices"
	"testing"

	"dioptra/api"
	"dioptra/certify"
)

// counted is a matrix of the bits 1, 2, 3 and so on.
func counted(rows, cols int) api.Matrix {
	m := of(rows, cols)
	for i := range rows * cols {
		m.Data = append(m.Data, api.Bits(i+1))
	}
	return m
}

// TestP16_1ColumnsOfAll: of all sizes, places in any order, a place twice, fewer and more than there are columns, as many as MaxDim.
func TestP16_1ColumnsOfAll(t *testing.T) {
	d := dice(1627)
	for _, s := range sizes() {
		for _, a := range []api.Matrix{counted(s[0], s[1]), picked(s[0], s[1], d.any()), picked(s[0], s[1], d.out(all()))} {
			wantsColumns(t, a, nil, of(s[0], 0))
			wantsColumns(t, a, []int{}, of(s[0], 0))
			wantsColumns(t, a, inOrder(s[1]), a)
			order := d.shuffled(s[1])
			wantsColumns(t, a, order, columnsOf(a, order...))
			for n := range api.MaxDim + 1 {
				if s[1] == 0 {
					continue
				}
				places := make([]int, n)
				wantsColumns(t, a, places, columnsOf(a, places...))
				for i := range places {
					places[i] = d.below(s[1])
				}
				wantsColumns(t, a, places, columnsOf(a, places...))
			}
		}
	}
}

func TestP16_1ColumnsByHand(t *testing.T) {
	a := of(2, 3, api.One, two, three, four, five, half)
	for _, c := range []struct {
		places []int
		want   api.Matrix
	}{
		{[]int{2}, of(2, 1, three, half)},
		{[]int{2, 0}, of(2, 2, three, api.One, half, four)},
		{[]int{1, 1, 0, 2}, of(2, 4, two, two, api.One, three, five, five, four, half)},
		{[]int{0, 1, 2, 0, 1, 2}, of(2, 6, api.One, two, three, api.One, two, three, four, five, half, four, five, half)},
		{nil, of(2, 0)},
	} {
		wantsColumns(t, a, c.places, c.want)
	}
	wantsColumns(t, of(0, 2), []int{1, 0, 1}, of(0, 3))
	wantsColumns(t, of(6, 0), nil, of(6, 0))
	wantsColumns(t, of(1, 2, api.NaN+1, api.NegInf), []int{1, 0}, of(1, 2, api.NegInf, api.NaN+1)) // handed on as they are
}

// TestP16_1ColumnsNone: a place of -1, of as many as there are columns, and others far off, at each of the places.
func TestP16_1ColumnsNone(t *testing.T) {
	d := dice(1628)
	for _, s := range sizes() {
		a := counted(s[0], s[1])
		for _, none := range []int{-1, -2, s[1], s[1] + 1, api.MaxDim, api.MaxDim + 1, 1 << 32, -1 << 32, math.MaxInt, math.MinInt} {
			if none == api.MaxDim && s[1] > none {
				continue
			}
			wantsNoColumns(t, a, []int{none}, api.ErrForm)
			for n := 1; n <= api.MaxDim && s[1] > 0; n++ {
				for i := range n {
					places := make([]int, n)
					for k := range places {
						places[k] = d.below(s[1])
					}
					places[i] = none
					wantsNoColumns(t, a, places, api.ErrForm)
				}
			}
		}
	}
}

// TestP16_1ColumnsTooMany: one more than MaxDim, and many more; ErrForm before that, wherever the place is that is none.
func TestP16_1ColumnsTooMany(t *testing.T) {
	for _, s := range sizes() {
		a := counted(s[0], s[1])
		for _, n := range []int{api.MaxDim + 1, api.MaxDim + 2, 100, 5000} {
			places := make([]int, n)
			if s[1] == 0 {
				wantsNoColumns(t, a, places, api.ErrForm)
				continue
			}
			wantsNoColumns(t, a, places, api.ErrShape)
			for _, i := range []int{0, 1, api.MaxDim, n / 2, n - 1} {
				for _, none := range []int{-1, s[1]} {
					other := slices.Clone(places)
					other[i] = none
					wantsNoColumns(t, a, other, api.ErrForm)
				}
			}
		}
	}
}

// TestP16_1ColumnsForm: what is not right has no columns: ErrForm before ErrShape.
func TestP16_1ColumnsForm(t *testing.T) {
	for _, b := range badNumbers() {
		for _, m := range append(wrong(b), justWrong(b)...) {
			for _, places := range [][]int{nil, {0}, {1, 0}, {-1}, make([]int, api.MaxDim), make([]int, api.MaxDim+1)} {
				wantsNoColumns(t, m, places, api.ErrForm)
			}
		}
	}
}

// TestP16_1ColumnsNotFinite: a need only be right: numbers that are not finite are no error.
func TestP16_1ColumnsNotFinite(t *testing.T) {
	for _, b := range notFinite() {
		a := of(2, 2, api.One, b, b, two)
		if certify.Check(a) != api.ErrFinite {
			t.Errorf("%s is finite", show(a))
		}
		wantsColumns(t, a, []int{1, 0, 1}, of(2, 3, b, api.One, b, two, b, two))
	}
}
