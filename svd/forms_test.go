package svd_test

import (
	"testing"

	"dioptra/api"
	"dioptra/certify"
)

// justWrong are matrices that are only just not right: of -1 and of MaxDim + 1 rows or columns, Data too short or too long by one number.
func justWrong(b api.Bits) []api.Matrix {
	var list []api.Matrix
	for _, s := range [][3]int{{-1, 1, 0}, {1, -1, 0}, {-1, 0, 0}, {0, -1, 0}, {-1, -1, 1}, {7, 1, 7}, {1, 7, 7}, {7, 0, 0}, {0, 7, 0}, {7, 7, 49}, {2, 3, 5}, {2, 3, 7}, {3, 3, 8}, {3, 3, 10}, {6, 6, 35}, {6, 6, 37}, {1, 1, 0}, {1, 1, 2}, {0, 0, 1}, {0, 6, 1}, {6, 0, 1}} {
		list = append(list, of(s[0], s[1], filled(s[2], 1, b).Data...))
	}
	return list
}

// TestP19_1Form: of sizes and of length, whatever number stands there: before ErrFinite and ErrRange.
func TestP19_1Form(t *testing.T) {
	for _, n := range append(all(), greatest) {
		for _, a := range append(wrong(n), justWrong(n)...) {
			fails(t, a, api.ErrForm)
		}
	}
}

// TestP19_1Finite: one number that is not finite, at each place, whatever stands beside it: before ErrRange.
func TestP19_1Finite(t *testing.T) {
	d := dice(1940)
	for _, s := range sizes() {
		for place := range s[0] * s[1] {
			for _, none := range notFinite() {
				for _, pick := range []func() api.Bits{d.near(-3, 6), d.out(noughts()), d.out([]api.Bits{greatest}), d.out(all())} {
					a := picked(s[0], s[1], pick)
					a.Data[place] = none
					fails(t, a, api.ErrFinite)
				}
			}
		}
	}
}

// TestP19_1AsCheckSays: the errors of what may not be asked are those of the certifying layer.
func TestP19_1AsCheckSays(t *testing.T) {
	d := dice(1941)
	list := append(justWrong(api.One), justWrong(api.NaN)...)
	for _, s := range sizes() {
		list = append(list, picked(s[0], s[1], d.out(all())), picked(s[0], s[1], d.sparse(d.out(notFinite()))))
	}
	for _, a := range list {
		if e := certify.Check(a); e != api.OK {
			fails(t, a, e)
		} else {
			wantsGos(t, a)
		}
	}
}

// TestP19_1Sizes: w is of a's size, v has as many rows and columns as a has columns, and there is a size of each column.
func TestP19_1Sizes(t *testing.T) {
	d := dice(1942)
	for _, s := range sizes() {
		for _, pick := range []func() api.Bits{d.near(-3, 6), d.small(1), d.out(noughts())} {
			got := ask(picked(s[0], s[1], pick))
			if got.w.Rows != s[0] || got.w.Cols != s[1] || len(got.w.Data) != s[0]*s[1] || got.v.Rows != s[1] || got.v.Cols != s[1] || len(got.v.Data) != s[1]*s[1] || len(got.sizes) != s[1] || got.err != api.OK {
				t.Errorf("of %d rows and %d columns: %s", s[0], s[1], got.show())
			}
		}
	}
}

// TestP19_1TooGreat: what is turned together is too great at last, as all columns are, or but two of them, wherever they stand.
func TestP19_1TooGreat(t *testing.T) {
	for _, s := range sizes() {
		if s[0] < 1 || s[1] < 2 {
			continue
		}
		for _, sign := range noughts() {
			a := filled(s[0], s[1], greatest^sign)
			fails(t, a, api.ErrRange)
			seen := wantsGos(t, a)
			if !seen.failed {
				t.Errorf("%s: %+v", show(a), seen)
			}
			below := shifted(a, -2) // 6 of them, of one another's size, are less than 4 times as great
			if got := ask(below); got.err != api.OK {
				t.Errorf("Upright of %s: %s", show(below), got.show())
			}
		}
		for p := range s[1] {
			for q := range p {
				a := filled(s[0], s[1], api.Zero)
				*at(a, s[0]-1, p), *at(a, s[0]-1, q) = greatest, greatest
				fails(t, a, api.ErrRange)
				*at(a, s[0]-1, q) = minus(greatest)
				fails(t, a, api.ErrRange)
			}
		}
	}
}

// TestP19_1JustFinite: the greatest numbers for which turning two columns of one row comes to a finite number, and the next ones.
func TestP19_1JustFinite(t *testing.T) {
	for _, other := range []api.Bits{power(1023), power(1022), three | power(1000), power(990)} {
		low, high := power(1000), greatest
		for high-low > 1 { // of low there is an answer, of high there is none, or it is the greatest number
			mid := low + (high-low)/2
			if _, seen := gosUpright(of(1, 2, mid, other)); seen.failed {
				high = mid
			} else {
				low = mid
			}
		}
		if seen := wantsGos(t, of(1, 2, low, other)); seen.failed {
			t.Errorf("%x and %x fail", low, other)
		}
		wantsGos(t, of(1, 2, low+1, other))
		wantsGos(t, of(1, 2, other, low))
		wantsGos(t, of(1, 2, other, low+1))
	}
}
