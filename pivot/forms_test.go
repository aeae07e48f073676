package pivot_test

import (
	"testing"

	"dioptra/api"
	"dioptra/certify"
	"dioptra/matrix"
)

// badNumbers are such as would be another error, if the matrix were right.
func badNumbers() []api.Bits {
	return []api.Bits{api.One, api.Zero, api.Inf, api.NegInf, api.NaN, greatest}
}

// justWrong are matrices that are only just not right: of -1 and of MaxDim + 1 rows or columns, Data too short or too long by one number.
func justWrong(b api.Bits) []api.Matrix {
	var list []api.Matrix
	for _, s := range [][3]int{{-1, 1, 0}, {1, -1, 0}, {-1, 0, 0}, {0, -1, 0}, {-1, -1, 1}, {7, 1, 7}, {1, 7, 7}, {7, 0, 0}, {0, 7, 0}, {7, 7, 49}, {2, 3, 5}, {2, 3, 7}, {3, 2, 5}, {3, 2, 7}, {6, 6, 35}, {6, 6, 37}, {1, 1, 0}, {1, 1, 2}, {0, 0, 1}, {0, 6, 1}, {6, 0, 1}} {
		list = append(list, of(s[0], s[1], filled(s[2], 1, b).Data...))
	}
	return list
}

// TestP16_1Form: sizes out of their range, Data too short or too long, whatever number stands there: ErrForm before ErrFinite and ErrRange.
func TestP16_1Form(t *testing.T) {
	for _, b := range badNumbers() {
		for _, m := range append(wrong(b), justWrong(b)...) {
			wantsNone(t, m, api.ErrForm)
			wantsNoRank(t, m, api.ErrForm)
		}
	}
}

// TestP16_1Finite: one number that is not finite, at each place, among ordinary numbers, and among such as are too great: ErrFinite before ErrRange.
func TestP16_1Finite(t *testing.T) {
	d := dice(1620)
	for _, s := range sizes() {
		for place := range s[0] * s[1] {
			for _, none := range notFinite() {
				for _, pick := range []func() api.Bits{d.near(-3, 6), d.out(noughts()), d.out([]api.Bits{greatest}), d.out(all())} {
					m := picked(s[0], s[1], pick)
					m.Data[place] = none
					wantsNone(t, m, api.ErrFinite)
					wantsNoRank(t, m, api.ErrFinite)
				}
			}
		}
	}
}

// TestP16_1AsCheckSays: the errors of what may not be asked are those of the certifying layer; of what may be, Told has none, and Factor ErrRange alone.
func TestP16_1AsCheckSays(t *testing.T) {
	d := dice(1621)
	list := append(wrong(api.One), justWrong(api.NaN)...)
	for _, s := range sizes() {
		for _, pick := range append(d.sorts(), d.out(all()), d.any(), d.sparse(d.out(notFinite()))) {
			list = append(list, picked(s[0], s[1], pick))
		}
	}
	count := map[api.Errno]int{}
	for _, m := range list {
		e := certify.Check(m)
		count[e]++
		if e != api.OK {
			wantsNone(t, m, e)
			wantsNoRank(t, m, e)
			continue
		}
		wantsGos(t, m)
		wantsTold(t, m, gosTold(m))
	}
	for _, e := range []api.Errno{api.OK, api.ErrForm, api.ErrFinite} {
		if count[e] < 50 {
			t.Errorf("which errors: %v", count)
		}
	}
}

// wantsEnd looks after a matrix that has no factors, and why that is so.
func wantsEnd(t *testing.T, a api.Matrix, want end) {
	t.Helper()
	if _, how := gosFactors(a); how != want {
		t.Errorf("%s: the end is %v; wanted %v", show(a), how, want)
	}
	wantsNone(t, a, api.ErrRange)
}

// TestP16_1NoNormFirst: a norm that is not finite, in the first step, of each column, whatever stands beside it.
func TestP16_1NoNormFirst(t *testing.T) {
	d := dice(1622)
	for rows := 2; rows <= api.MaxDim; rows++ {
		for cols := 1; cols <= api.MaxDim; cols++ {
			for k := range cols {
				for _, pick := range []func() api.Bits{d.near(-3, 6), d.near(1020, 1), d.out(noughts())} {
					m := picked(rows, cols, pick)
					*at(m, 0, k), *at(m, rows-1, k) = greatest, minus(greatest)
					wantsEnd(t, m, end{"norm", 0, k})
					*at(m, 0, k), *at(m, rows-1, k) = greatest, power(1000) // of the greatest one and a far smaller one
					wantsEnd(t, m, end{"norm", 0, k})
				}
			}
		}
	}
}

// TestP16_1Border: the greatest number below one that is lost beside it, then below one that is too great for the mirror, then for the norm as well.
func TestP16_1Border(t *testing.T) {
	for e := 900; e < 1024; e++ {
		for _, more := range []api.Bits{0, 1, 1<<52 - 1} {
			m := of(2, 2, power(e)+more, api.One, greatest, api.Zero)
			switch {
			case e < 970:
				wantsGos(t, m)
				if got, err := factor(m); err != api.OK || *at(got.r, 0, 0) != minus(greatest) {
					t.Errorf("%s: %v\n%v", show(m), got, err)
				}
			case e < 996:
				wantsEnd(t, m, end{"mirror", 0, 0})
			case e > 998:
				wantsEnd(t, m, end{"norm", 0, 0})
			default:
				wantsNone(t, m, api.ErrRange)
			}
		}
	}
}

// TestP16_1NoNormLater: columns that have norms, and have none when a mirror before them is done: of the column that stands at its place already, and of those behind it, as the first mirror's v has One ahead and another One below.
func TestP16_1NoNormLater(t *testing.T) {
	for rows := 2; rows <= api.MaxDim; rows++ {
		for cols := 2; cols <= api.MaxDim; cols++ {
			for k := 1; k < cols; k++ {
				m := filled(rows, cols, api.Zero)
				for c := 1; c < cols; c++ {
					*at(m, rows-1, c) = api.One
				}
				*at(m, rows-1, 0) = greatest
				*at(m, 0, k), *at(m, rows-1, k) = power(1023), power(1023) // their sum is not finite
				wantsEnd(t, m, end{"norm", 1, k - 1})
				if rows > 2 { // that column comes to have a number that is none, and so would not be taken
					*at(m, 1, k) = three
					wantsEnd(t, m, end{"norm", 1, k - 1})
				}
			}
		}
	}
}

// TestP16_1NoMirrorFirst: a mirror of the first column that is taken can't be made, wherever it stands: its norm is finite, but its first number less beta is not.
func TestP16_1NoMirrorFirst(t *testing.T) {
	d := dice(1623)
	for rows := 2; rows <= api.MaxDim; rows++ {
		for cols := 1; cols <= api.MaxDim; cols++ {
			for k := range cols {
				m := picked(rows, cols, d.near(-3, 6))
				*at(m, 0, k), *at(m, rows-1, k) = power(1023), power(1022)
				wantsEnd(t, m, end{"mirror", 0, 0})
				*at(m, 0, k), *at(m, rows-1, k) = minus(greatest), least
				for i := 1; i < rows-1; i++ {
					*at(m, i, k) = api.NegZero
				}
				wantsEnd(t, m, end{"mirror", 0, 0})
			}
		}
	}
}

// TestP16_1NoMirrorNotTaken: a column that has no mirror, but is not taken: by then it has one.
func TestP16_1NoMirrorNotTaken(t *testing.T) {
	m := of(2, 2, power(1022), api.Zero, power(1022), power(1023)) // the second one is taken
	wantsGos(t, m)
	if got, e := factor(m); e != api.OK || got.places[0] != 1 {
		t.Errorf("%s: %v\n%v", show(m), got, e)
	}
	other := of(2, 2, greatest, api.Zero, least, greatest) // of two that are as much the first one is
	wantsEnd(t, other, end{"mirror", 0, 0})
	wantsGos(t, columnsOf(other, 1, 0))
}

// TestP16_1NoMirrorLater: a mirror of a later column that can't be made, where all before it can; in the last row there is none to be made.
func TestP16_1NoMirrorLater(t *testing.T) {
	for rows := 2; rows <= api.MaxDim; rows++ {
		for j := 1; j < rows; j++ {
			for cols := j + 1; cols <= api.MaxDim; cols++ {
				for k := j; k < cols; k++ {
					for _, second := range []api.Bits{power(1022), minus(power(1022)), power(1010)} {
						m := filled(rows, cols, api.Zero)
						for i := range j {
							*at(m, i, i) = greatest
						}
						*at(m, j, k) = power(1023) + 1<<51
						if j < rows-1 {
							*at(m, rows-1, k) = second
							wantsEnd(t, m, end{"mirror", j, 0})
							continue
						}
						want := inOrder(cols)
						want[j], want[k] = k, j
						wantsFactors(t, m, factored{eye(rows), columnsOf(m, want...), want})
					}
				}
			}
		}
	}
}

// TestP16_1FactorNotFinite: every norm is finite and every mirror can be made, and r has a number that is not finite, above the rows of which norms are reckoned.
func TestP16_1FactorNotFinite(t *testing.T) {
	for _, m := range []api.Matrix{
		of(3, 2, 0, 0xfca4000000000000, 0x7fad753e785b6cc7, 0x7fad753e785b6cc7, 0x7feff26e08009cde, 0x7feff26e08009cde),
		of(3, 2, 0, 0xfcb4000000000000, 0x7fe2681a7238bbfb, 0x7fe2681a7238bbf7, 0x7fea2d1d8528b2cf, 0x7fea2d1d8528b2d1),
		of(3, 2, 0, 0xfc94000000000000, 0x7fd12a7729b155f2, 0x7fd12a7729b155f3, 0x7feed3d550deff7c, 0x7feed3d550deff7b),
		of(3, 2, 0, 0xfca8000000000000, 0x7fe9fbf128acd101, 0x7fe9fbf128acd101, 0x7fe2ad44cf9de5dc, 0x7fe2ad44cf9de5dd),
	} {
		wantsEnd(t, m, end{"factor", 2, 0})
		wantsEnd(t, each(m, minus), end{"factor", 2, 0})
		wide := columnsOf(m, 0, 1, 1, 1) // one after another is not finite there
		wantsEnd(t, wide, end{"factor", 2, 0})
	}
}

// TestP16_1GreatestFits: the greatest number, where nothing is to be mirrored: all is told as it is, but for the signs of noughts.
func TestP16_1GreatestFits(t *testing.T) {
	for _, s := range sizes() {
		m := filled(s[0], s[1], api.Zero)
		for k := range min(s[0], s[1]) {
			*at(m, k, k) = greatest
		}
		wantsFactors(t, m, factored{eye(s[0]), m, inOrder(s[1])})
		wantsGos(t, each(m, minus))
	}
}

// TestP16_1Sizes: q has as many rows and columns as a has rows, r is of a's size, and of places there are as many as columns.
func TestP16_1Sizes(t *testing.T) {
	d := dice(1624)
	for _, s := range sizes() {
		a := picked(s[0], s[1], d.near(-3, 6))
		got, e := factor(a)
		if matrix.Check(got.q) != api.OK || matrix.Check(got.r) != api.OK || got.q.Rows != s[0] || got.q.Cols != s[0] || got.r.Rows != s[0] || got.r.Cols != s[1] || len(got.places) != s[1] || e != api.OK {
			t.Errorf("Factor of %s: %v\n%v", show(a), got, e)
		}
	}
}
