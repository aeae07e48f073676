package hess_test

import (
	"testing"

	"dioptra/api"
	"dioptra/certify"
	"dioptra/hess"
)

// wantsInfinite looks after what Infinite tells.
func wantsInfinite(t *testing.T, m api.Matrix, want int) {
	t.Helper()
	if n, e := hess.Infinite(m); n != want || e != api.OK {
		t.Errorf("Infinite of %s: %d, %v; wanted %d", show(m), n, e, want)
	}
}

// infiniteFails looks after Infinite's error, and the 0 that is told beside it.
func infiniteFails(t *testing.T, m api.Matrix, want api.Errno) {
	t.Helper()
	if n, e := hess.Infinite(m); n != 0 || e != want {
		t.Errorf("Infinite of %s: %d, %v; wanted %v", show(m), n, e, want)
	}
}

// TestP18_1InfiniteCount: noughts of either sign at all sets of places, whatever stands beside the diagonal, noughts too.
func TestP18_1InfiniteCount(t *testing.T) {
	d := dice(1830)
	for n := range api.MaxDim + 1 {
		for places := range 1 << n {
			for _, pick := range []func() api.Bits{d.near(-3, 6), d.near(-1022, 2), d.out([]api.Bits{least, minus(least)}), d.out([]api.Bits{greatest, 2, api.NegZero + 1})} {
				count := 0
				for i := range n {
					count += places >> i & 1
				}
				m := d.noughtDiagonal(picked(n, n, pick), places)
				wantsInfinite(t, m, count)
				for i := range n {
					for k := range n {
						if i != k {
							*at(m, i, k) = d.out(noughts())()
						}
					}
				}
				wantsInfinite(t, m, count)
			}
		}
	}
}

// TestP18_1InfiniteEdges: no rows, one row, just noughts, the least number above 0 and below it, all finite numbers.
func TestP18_1InfiniteEdges(t *testing.T) {
	wantsInfinite(t, of(0, 0), 0)
	for n := range api.MaxDim + 1 {
		for _, b := range finites() {
			want := 0
			if b == api.Zero || b == api.NegZero {
				want = n
			}
			wantsInfinite(t, filled(n, n, b), want)
			wantsInfinite(t, withDiagonal(n, n, api.NegZero, filled(n, 1, b).Data...), want)
		}
		wantsInfinite(t, eye(n), 0)
	}
	wantsInfinite(t, wholes(2, 0, 1, 1, 1), 1)
	wantsInfinite(t, of(3, 3, least, 0, 0, 0, api.NegZero, 0, 0, 0, minus(least)), 1)
}

// TestP18_1InfiniteOfBrought: of singular b, too, it counts noughts, not small numbers.
func TestP18_1InfiniteOfBrought(t *testing.T) {
	d := dice(1831)
	seen := map[int]int{}
	for range 200 {
		n := 1 + d.below(api.MaxDim)
		f, e := hess.Bring(picked(n, n, d.small(3)), picked(n, n, d.sparse(d.small(2))))
		want := 0
		for i := range f.T.Rows {
			if float(*at(f.T, i, i)) == 0 {
				want++
			}
		}
		if e != api.OK {
			t.Errorf("of %d rows: %v", n, e)
		}
		wantsInfinite(t, f.T, want)
		seen[want]++
	}
	if len(seen) < 4 {
		t.Errorf("how many noughts there were: %v", seen)
	}
}

// TestP18_1InfiniteForm: before ErrFinite and ErrShape.
func TestP18_1InfiniteForm(t *testing.T) {
	for _, b := range badNumbers() {
		for _, m := range append(wrong(b), justWrong(b)...) {
			infiniteFails(t, m, api.ErrForm)
		}
	}
}

// TestP18_1InfiniteFinite: one number that is not finite, at each place, on the diagonal or beside it; before ErrShape.
func TestP18_1InfiniteFinite(t *testing.T) {
	d := dice(1832)
	for _, s := range sizes() {
		for place := range s[0] * s[1] {
			for _, none := range notFinite() {
				for _, pick := range []func() api.Bits{d.near(-3, 6), d.out(noughts()), d.out(all())} {
					m := picked(s[0], s[1], pick)
					m.Data[place] = none
					infiniteFails(t, m, api.ErrFinite)
				}
			}
		}
		for _, pick := range []func() api.Bits{d.any(), d.out(all())} {
			if m := picked(s[0], s[1], pick); certify.Check(m) != api.OK {
				infiniteFails(t, m, certify.Check(m))
			}
		}
	}
}

// TestP18_1InfiniteShape: more rows than columns, and fewer.
func TestP18_1InfiniteShape(t *testing.T) {
	for _, s := range sizes() {
		for _, b := range finites() {
			if s[0] != s[1] {
				infiniteFails(t, filled(s[0], s[1], b), api.ErrShape)
			}
		}
	}
}
