package certify_test

import (
	"fmt"
	"math"
	"math/big"
	"slices"
	"testing"

	"dioptra/api"
	"dioptra/certify"
)

func TestP11_1CheckOfFinite(t *testing.T) {
	d := dice(1111)
	for _, s := range sizes() {
		for _, pick := range d.sorts() {
			if m := picked(s[0], s[1], pick); certify.Check(m) != api.OK {
				t.Errorf("%x: %v", m, certify.Check(m))
			}
		}
	}
	for _, b := range finites() {
		if e := certify.Check(of(1, 1, b)); e != api.OK {
			t.Errorf("%x: %v", b, e)
		}
	}
	for _, m := range []api.Matrix{{}, {Data: []api.Bits{}}, {Rows: 6}, {Cols: 6, Data: []api.Bits{}}, of(0, 1, []api.Bits{api.Inf}[:0]...), of(1, 1, []api.Bits{api.One, api.NaN}[:1]...)} {
		if e := certify.Check(m); e != api.OK { // what lies behind the end is not asked
			t.Errorf("%x: %v", m, e)
		}
	}
}

// TestP11_1CheckOfWrong: of numbers that are finite, and of such as are not: what is not right is told first.
func TestP11_1CheckOfWrong(t *testing.T) {
	for _, b := range append(notFinite(), api.One, api.Zero) {
		for _, m := range wrong(b) {
			if e := certify.Check(m); e != api.ErrForm {
				t.Errorf("%d rows, %d columns, %d times %x: %v", m.Rows, m.Cols, len(m.Data), b, e)
			}
		}
	}
}

// singles are the calls that are handed one matrix.
func singles() map[string]func(m api.Matrix) (api.Dyadic, api.Errno) {
	return map[string]func(m api.Matrix) (api.Dyadic, api.Errno){"Square": certify.Square, "Orthogonal": certify.Orthogonal}
}

// wantsErrorOfOne looks after all calls of one matrix.
func wantsErrorOfOne(t *testing.T, m api.Matrix, want api.Errno) {
	t.Helper()
	what := fmt.Sprintf("of %d rows, %d columns, %d numbers", m.Rows, m.Cols, len(m.Data))
	if e := certify.Check(m); e != want {
		t.Errorf("Check %s: %v; wanted %v", what, e, want)
	}
	if n, e := certify.Rank(m); n != 0 || e != want {
		t.Errorf("Rank %s: %d, %v; wanted %v", what, n, e, want)
	}
	for name, call := range singles() {
		got, e := call(m)
		wantsNone(t, name+" "+what, got, e, want)
	}
}

// TestP11_1NotFinite: each alone among finite numbers, in each place.
func TestP11_1NotFinite(t *testing.T) {
	d := dice(1112)
	for _, s := range sizes() {
		for place := range s[0] * s[1] {
			for _, b := range notFinite() {
				m := picked(s[0], s[1], d.out(finites()...))
				m.Data[place] = b
				wantsErrorOfOne(t, m, api.ErrFinite)
			}
		}
	}
}

func TestP11_1Wrong(t *testing.T) {
	for _, b := range []api.Bits{api.One, api.Zero, api.NaN, api.Inf} {
		for _, m := range wrong(b) {
			wantsErrorOfOne(t, m, api.ErrForm)
		}
	}
}

// faulty are matrices of that size, with what Check answers of them.
func faulty(rows, cols int) map[string]struct {
	m api.Matrix
	e api.Errno
} {
	right := filled(rows, cols, three)
	infinite := filled(rows, cols, three)
	infinite.Data[rows*cols-1] = api.NegInf
	none := filled(rows, cols, api.NaN)
	return map[string]struct {
		m api.Matrix
		e api.Errno
	}{
		"right":    {right, api.OK},
		"infinite": {infinite, api.ErrFinite},
		"none":     {none, api.ErrFinite},
		"short":    {of(rows, cols, right.Data[1:]...), api.ErrForm},
		"long":     {of(rows, cols, append(slices.Clone(none.Data), api.One)...), api.ErrForm},
		"high":     {of(7, 1, filled(7, 1, api.Inf).Data...), api.ErrForm},
	}
}

// firstError is the first one that is not OK, else the last.
func firstError(list ...api.Errno) api.Errno {
	for _, e := range list {
		if e != api.OK {
			return e
		}
	}
	return api.OK
}

// TestP11_1FirstErrorOfThree: all ways in which the three can be faulty, their sizes going together or not. Gradient asks b first, as Residual(b, a, x) does.
func TestP11_1FirstErrorOfThree(t *testing.T) {
	for _, fits := range []bool{true, false} {
		cols, last := 3, api.OK
		if !fits {
			cols, last = 4, api.ErrShape
		}
		for n1, a := range faulty(2, 2) {
			for n2, b := range faulty(2, 3) {
				for n3, c := range faulty(cols, 2) {
					what := fmt.Sprintf("of %s, %s and %s", n1, n2, n3)
					want := firstError(a.e, b.e, c.e, last)
					residual, e := certify.Residual(a.m, b.m, c.m)
					gradient, f := certify.Gradient(b.m, c.m, a.m)
					if want == api.OK {
						if e != api.OK || f != api.OK {
							t.Errorf("%s: %v, %v", what, e, f)
						}
						continue
					}
					wantsNone(t, "Residual "+what, residual, e, want)
					wantsNone(t, "Gradient "+what, gradient, f, want)
				}
			}
		}
	}
}

// TestP11_1Shapes goes over all sizes of three matrices.
func TestP11_1Shapes(t *testing.T) {
	var list []api.Matrix
	for _, s := range sizes() {
		list = append(list, filled(s[0], s[1], api.One))
	}
	for _, a := range list {
		for _, b := range list {
			for _, c := range list {
				want := api.OK
				if b.Cols != c.Rows || a.Rows != b.Rows || a.Cols != c.Cols {
					want = api.ErrShape
				}
				residual, e := certify.Residual(a, b, c)
				gradient, f := certify.Gradient(b, c, a)
				if e != want || f != want {
					t.Fatalf("%d by %d, %d by %d, %d by %d: %v, %v", a.Rows, a.Cols, b.Rows, b.Cols, c.Rows, c.Cols, e, f)
				}
				if want != api.OK && (!same(residual, api.Dyadic{}) || !same(gradient, api.Dyadic{})) {
					t.Fatalf("%s and %s beside an error", show(residual), show(gradient))
				}
			}
		}
	}
}

// wrongDyadics are such as are not right.
func wrongDyadics() []api.Dyadic {
	long := make([]uint32, api.MaxLimbs+1)
	long[0], long[api.MaxLimbs] = 1, 1
	even := new(big.Int).Lsh(big.NewInt(1), 32)
	list := []api.Dyadic{
		{M: api.Whole{Neg: true}}, {M: api.Whole{Limbs: []uint32{0}}}, {M: api.Whole{Limbs: []uint32{5, 0}}}, {M: api.Whole{Limbs: long}},
		{M: wholeOf(even)}, {E: 1}, {E: -1}, number(2, 0), number(6, -4000), {M: wholeOf(big.NewInt(0)), E: -4000},
	}
	for _, e := range []int{api.MaxExp + 1, -api.MaxExp - 1, math.MaxInt, math.MinInt, 1 << 32} {
		list = append(list, number(1, e), api.Dyadic{E: e})
	}
	return list
}

// belowZero are right numbers, all of them less than 0.
func belowZero() []api.Dyadic {
	var list []api.Dyadic
	for _, d := range dyadics() {
		if len(d.M.Limbs) > 0 {
			d.M.Neg = true
			list = append(list, d)
		}
	}
	return list
}

func wantsNoVerdict(t *testing.T, x, y api.Dyadic, k int) {
	t.Helper()
	if is, e := certify.Within(x, y, k); is || e != api.ErrForm {
		t.Errorf("Within(%s, %s, %d): %v, %v", show(x), show(y), k, is, e)
	}
}

// TestP11_2WithinForm: on either side, and on both, with a k in its range and one that is not.
func TestP11_2WithinForm(t *testing.T) {
	for _, bad := range append(wrongDyadics(), belowZero()...) {
		for _, good := range []api.Dyadic{{}, number(1, 0), number(1, -api.MaxExp), number(3, api.MaxExp)} {
			for _, k := range []int{0, 1, 200, -1, 201} {
				wantsNoVerdict(t, bad, good, k)
				wantsNoVerdict(t, good, bad, k)
				wantsNoVerdict(t, bad, bad, k)
			}
		}
	}
}

func TestP11_2WithinK(t *testing.T) {
	for _, d := range dyadics() {
		for _, k := range []int{-1, 201, -200, 400, -1 << 32, 1 << 32, 1 << 62, 1<<62 + 1, math.MinInt, math.MaxInt, math.MinInt / 2, math.MinInt/2 + 1} {
			wantsNoVerdict(t, d, d, k)
			wantsNoVerdict(t, api.Dyadic{}, d, k)
		}
		for _, k := range []int{0, 1, 100, 199, 200} {
			if _, e := certify.Within(d, d, k); e != api.OK {
				t.Errorf("Within(%s, itself, %d): %v", show(d), k, e)
			}
			if is, e := certify.Within(api.Dyadic{}, d, k); !is || e != api.OK {
				t.Errorf("0 within %s, %d: %v, %v", show(d), k, is, e)
			}
		}
	}
}
