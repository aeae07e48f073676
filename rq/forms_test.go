package rq_test

import (
	"testing"

	"dioptra/api"
	"dioptra/matrix"
	"dioptra/qr"
	"dioptra/rq"
)

// badNumbers are such as would be another error, if the matrix were right.
func badNumbers() []api.Bits {
	return []api.Bits{api.One, api.Zero, api.Inf, api.NegInf, api.NaN, greatest}
}

// justWrong are matrices that are only just not right: of -1 and of MaxDim + 1 rows or columns, Data too short or too long by one number.
func justWrong(b api.Bits) []api.Matrix {
	var list []api.Matrix
	for _, s := range [][3]int{{-1, 1, 0}, {1, -1, 0}, {-1, 0, 0}, {0, -1, 0}, {-1, -1, 1}, {7, 1, 7}, {1, 7, 7}, {7, 0, 0}, {0, 7, 0}, {7, 7, 49}, {2, 3, 5}, {2, 3, 7}, {3, 2, 5}, {3, 2, 7}, {6, 6, 35}, {6, 6, 37}, {1, 1, 0}, {1, 1, 2}, {0, 0, 1}, {0, 6, 1}, {6, 0, 1}} {
		list = append(list, of(s[0], s[1], filled(s[2], 1, b).Data...))
	}
	return list
}

// TestP15_1Form: what is not right has no other order, whatever number stands there.
func TestP15_1Form(t *testing.T) {
	for _, b := range badNumbers() {
		for _, m := range append(wrong(b), justWrong(b)...) {
			for _, p := range pairs() {
				if got, e := rq.Flip(m, p[0], p[1]); !empty(got) || e != api.ErrForm {
					t.Errorf("Flip(%s, %v): %s, %v", show(m), p, show(got), e)
				}
			}
		}
	}
}

// TestP15_2Form: sizes out of their range, Data too short or too long, whatever number stands there: ErrForm before ErrShape, ErrFinite and ErrRange.
func TestP15_2Form(t *testing.T) {
	tall := 0
	for _, b := range badNumbers() {
		for _, m := range append(wrong(b), justWrong(b)...) {
			if m.Rows > m.Cols {
				tall++
			}
			for _, w := range ways() {
				w.wantsNone(t, m, api.ErrForm)
			}
		}
	}
	if tall < 100 {
		t.Errorf("of wrong matrices but %d have more rows than columns", tall)
	}
}

// TestP15_2Shape: of all sizes Rq does not take those of more rows than columns, whatever number stands there: ErrShape before ErrFinite and ErrRange. Lq takes all.
func TestP15_2Shape(t *testing.T) {
	d := dice(1520)
	for _, s := range sizes() {
		a := picked(s[0], s[1], d.near(-3, 6))
		if l, q, e := rq.Lq(a); matrix.Check(l) != api.OK || matrix.Check(q) != api.OK || l.Rows != s[0] || l.Cols != s[1] || q.Rows != s[1] || q.Cols != s[1] || e != api.OK {
			t.Errorf("Lq of %s: %s, %s, %v", show(a), show(l), show(q), e)
		}
		if s[0] > s[1] {
			upper().wantsNone(t, a, api.ErrShape)
			for _, b := range badNumbers() {
				upper().wantsNone(t, filled(s[0], s[1], b), api.ErrShape)
			}
		} else if r, q, e := rq.Rq(a); matrix.Check(r) != api.OK || matrix.Check(q) != api.OK || r.Rows != s[0] || r.Cols != s[1] || q.Rows != s[1] || q.Cols != s[1] || e != api.OK {
			t.Errorf("Rq of %s: %s, %s, %v", show(a), show(r), show(q), e)
		}
	}
}

// TestP15_2Finite: one number that is not finite, at each place, among ordinary numbers, and among such as are too great: ErrFinite before ErrRange.
func TestP15_2Finite(t *testing.T) {
	d := dice(1521)
	for _, s := range sizes() {
		for place := range s[0] * s[1] {
			for _, none := range notFinite() {
				for _, pick := range []func() api.Bits{d.near(-3, 6), d.out(noughts()), d.out([]api.Bits{greatest}), d.out(all())} {
					m := picked(s[0], s[1], pick)
					m.Data[place] = none
					for _, w := range ways() {
						if w.fits(m) {
							w.wantsNone(t, m, api.ErrFinite)
						} else {
							w.wantsNone(t, m, api.ErrShape)
						}
					}
				}
			}
		}
	}
}

// TestP15_2AsLayersBelowSay: the errors of Lq are matrix.Turn's, then qr.Factor's of what is turned; those of Rq, if it has no more rows than columns, are the same.
func TestP15_2AsLayersBelowSay(t *testing.T) {
	d := dice(1522)
	list := append(wrong(api.One), justWrong(api.NaN)...)
	for _, s := range sizes() {
		for _, pick := range append(d.sorts(), d.out(all()), d.any(), d.sparse(d.out(notFinite()))) {
			list = append(list, picked(s[0], s[1], pick))
		}
	}
	count := map[api.Errno]int{}
	for _, m := range list {
		columns, want := matrix.Turn(m)
		if want == api.OK {
			_, _, want = qr.Factor(columns)
		}
		count[want]++
		if _, _, e := rq.Lq(m); e != want {
			t.Errorf("Lq of %s: %v; wanted %v", show(m), e, want)
		}
		if matrix.Check(m) != api.OK || m.Rows > m.Cols {
			continue
		}
		_, _, want = qr.Factor(turned(upsideDown(m)))
		if _, _, e := rq.Rq(m); e != want {
			t.Errorf("Rq of %s: %v; wanted %v", show(m), e, want)
		}
	}
	for _, e := range []api.Errno{api.OK, api.ErrForm, api.ErrFinite, api.ErrRange} {
		if count[e] < 50 {
			t.Errorf("which errors: %v", count)
		}
	}
}

// spoilt are the last numbers of a row that begins with the greatest number, by which it has no mirror: its norm is not finite, or the first number less it.
func spoilt() []api.Bits {
	return []api.Bits{greatest, minus(greatest), power(1022), least, minus(least)}
}

// TestP15_2NoMirrorLq: a mirror of row i that can't be made, in the first row, in the last one and in between, where all before it can; of the last column alone there is none to be made.
func TestP15_2NoMirrorLq(t *testing.T) {
	for _, s := range sizes() {
		for i := range min(s[0], s[1]) {
			for _, last := range spoilt() {
				a := filled(s[0], s[1], api.Zero)
				for k := range min(s[0], s[1]) {
					*at(a, k, k) = api.One
				}
				*at(a, i, i) = greatest
				if i == s[1]-1 {
					lower().wants(t, a, a, eye(s[1]))
					continue
				}
				*at(a, i, s[1]-1) = last
				if g := gosLq(a); g.made != i || g.ok {
					t.Errorf("%s: %d mirrors are made, %v", show(a), g.made, g.ok)
				}
				lower().wantsNone(t, a, api.ErrRange)
			}
		}
	}
}

// TestP15_2NoMirrorRq: the same from the last row on: mirror j is that of the last row but j, from column j on.
func TestP15_2NoMirrorRq(t *testing.T) {
	for _, s := range sizes() {
		if s[0] > s[1] {
			continue
		}
		for j := range s[0] {
			for _, last := range spoilt() {
				a := filled(s[0], s[1], api.Zero)
				for k := range s[0] {
					*at(a, s[0]-1-k, k) = api.One
				}
				i := s[0] - 1 - j
				*at(a, i, j) = greatest
				if j == s[1]-1 {
					upper().wants(t, a, rightToLeft(a), upsideDown(eye(s[1])))
					continue
				}
				*at(a, i, s[1]-1) = last
				if g := gosRq(a); g.made != j || g.ok {
					t.Errorf("%s: %d mirrors are made, %v", show(a), g.made, g.ok)
				}
				upper().wantsNone(t, a, api.ErrRange)
			}
		}
	}
}

// TestP15_2WhichRowIsFirst: a row of two greatest numbers has no mirror where it comes first; where it comes last, one number of it is left, and none is made.
func TestP15_2WhichRowIsFirst(t *testing.T) {
	a := of(2, 2, api.One, api.Zero, greatest, greatest)
	lower().wants(t, a, a, eye(2))
	upper().wantsNone(t, a, api.ErrRange)
	a = upsideDown(a)
	lower().wantsNone(t, a, api.ErrRange)
	upper().wants(t, a, rightToLeft(a), upsideDown(eye(2)))
}

// TestP15_2NotFiniteLater: a row that was finite, and is not when a mirror before it is done: its own mirror can't be made, and the error is not ErrFinite.
func TestP15_2NotFiniteLater(t *testing.T) {
	for rows := 2; rows <= api.MaxDim; rows++ {
		for cols := 3; cols <= api.MaxDim; cols++ {
			for later := 1; later < rows; later++ {
				a := filled(rows, cols, api.One)
				for k := range cols {
					*at(a, later, k) = greatest
				}
				lower().wantsNone(t, a, api.ErrRange)
				if rows <= cols {
					upper().wantsNone(t, upsideDown(a), api.ErrRange)
				}
			}
		}
	}
}

// TestP15_2FactorNotFinite: every mirror can be made, and the first factor has a number that is not finite.
func TestP15_2FactorNotFinite(t *testing.T) {
	for _, a := range []api.Matrix{
		of(2, 2, api.One, api.One, greatest, greatest),
		of(2, 2, three, four, greatest, greatest),
		of(2, 2, three, four, minus(greatest), minus(greatest)),
		of(3, 3, api.One, api.Zero, api.Zero, api.Zero, api.One, api.One, greatest, greatest, greatest), // the second mirror makes it
	} {
		if g := gosLq(a); g.made != a.Cols-1 || g.ok {
			t.Errorf("Lq of %s: %d mirrors, %v", show(a), g.made, g.ok)
		}
		lower().wantsNone(t, a, api.ErrRange)
		over := upsideDown(a)
		if g := gosRq(over); g.made != a.Cols-1 || g.ok {
			t.Errorf("Rq of %s: %d mirrors, %v", show(over), g.made, g.ok)
		}
		upper().wantsNone(t, over, api.ErrRange)
	}
	tall := of(3, 2, three, four, api.One, api.One, greatest, greatest) // below the rows that are mirrored
	lower().wantsNone(t, tall, api.ErrRange)
	fits := of(2, 2, three, four, power(1022), power(1022))
	if l, _, e := rq.Lq(fits); e != api.OK || !isFinite(float(*at(l, 1, 0))) {
		t.Errorf("%s: l %s, %v", show(fits), show(l), e)
	}
	if r, _, e := rq.Rq(upsideDown(fits)); e != api.OK || !isFinite(float(*at(r, 0, 1))) {
		t.Errorf("%s upside down: r %s, %v", show(fits), show(r), e)
	}
}
