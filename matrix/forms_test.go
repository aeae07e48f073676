package matrix_test

import (
	"fmt"
	"math"
	"testing"

	"dioptra/api"
	"dioptra/matrix"
)

func TestP10_1CheckOfRight(t *testing.T) {
	d := dice(101)
	for _, s := range sizes() {
		for _, pick := range d.sorts() {
			if m := picked(s[0], s[1], pick); matrix.Check(m) != api.OK {
				t.Errorf("%x: %v", m, matrix.Check(m))
			}
		}
	}
	for _, m := range []api.Matrix{{}, {Data: []api.Bits{}}, {Rows: 6}, {Cols: 6}, {Rows: 6, Data: []api.Bits{}}, of(1, 1, api.NaN+5), of(0, 3, ones(3)[:0]...)} {
		if e := matrix.Check(m); e != api.OK {
			t.Errorf("%x: %v", m, e)
		}
	}
}

func TestP10_1CheckOfWrong(t *testing.T) {
	for _, m := range wrong() {
		if e := matrix.Check(m); e != api.ErrForm {
			t.Errorf("%d rows, %d columns, %d numbers: %v", m.Rows, m.Cols, len(m.Data), e)
		}
	}
	for _, m := range []api.Matrix{of(7, 7, ones(49)...), of(7, 1, ones(7)...), of(1, 7, ones(7)...), of(9, 4, ones(36)...), of(-1, -1, api.One), of(-2, -3, ones(6)...), of(1<<32, 1<<32), of(math.MinInt, 2), of(0, 7), of(7, 0), of(0, -1), of(2, 2, ones(3)...), of(2, 2, ones(5)...), of(0, 0, api.Zero)} {
		if e := matrix.Check(m); e != api.ErrForm {
			t.Errorf("%d rows, %d columns, %d numbers: %v", m.Rows, m.Cols, len(m.Data), e)
		}
	}
}

func TestP10_1Zeros(t *testing.T) {
	for _, s := range sizes() {
		m, e := matrix.Zeros(s[0], s[1])
		wants(t, "Zeros", m, e, of(s[0], s[1], make([]api.Bits, s[0]*s[1])...))
	}
	for _, n := range beyond() {
		for _, k := range append(beyond(), 0, 1, 3, api.MaxDim) {
			m, e := matrix.Zeros(n, k)
			wantsNone(t, fmt.Sprintf("Zeros(%d, %d)", n, k), m, e, api.ErrShape)
			m, e = matrix.Zeros(k, n)
			wantsNone(t, fmt.Sprintf("Zeros(%d, %d)", k, n), m, e, api.ErrShape)
		}
	}
}

func TestP10_1Eye(t *testing.T) {
	for n := range api.MaxDim + 1 {
		want := of(n, n, make([]api.Bits, n*n)...)
		for i := range n {
			want.Data[i*n+i] = api.One
		}
		m, e := matrix.Eye(n)
		wants(t, "Eye", m, e, want)
	}
	for _, n := range beyond() {
		m, e := matrix.Eye(n)
		wantsNone(t, fmt.Sprintf("Eye(%d)", n), m, e, api.ErrShape)
	}
}

func TestP10_1At(t *testing.T) {
	d := dice(102)
	for _, s := range sizes() {
		for _, m := range []api.Matrix{counted(s[0], s[1]), picked(s[0], s[1], d.out(all()))} {
			for i := range m.Rows {
				for k := range m.Cols {
					if b, e := matrix.At(m, i, k); b != m.Data[i*m.Cols+k] || e != api.OK {
						t.Errorf("%x at %d, %d: %x, %v", m, i, k, b, e)
					}
				}
			}
		}
	}
}

// wantsNoPlace looks after a place that there is not, in a matrix none of whose numbers is 0.
func wantsNoPlace(t *testing.T, m api.Matrix, i, k int) {
	t.Helper()
	if b, e := matrix.At(m, i, k); b != 0 || e != api.ErrNone {
		t.Errorf("%d rows, %d columns at %d, %d: %x, %v", m.Rows, m.Cols, i, k, b, e)
	}
}

// TestP10_1AtNowhere: just outside, on either side, where a number would lie if rows were gone over as one list.
func TestP10_1AtNowhere(t *testing.T) {
	for _, s := range sizes() {
		m := counted(s[0], s[1])
		for _, i := range append(beyond(), m.Rows, m.Rows+1) {
			for _, k := range append(beyond(), m.Cols, m.Cols+1) {
				wantsNoPlace(t, m, i, k)
			}
			for k := range m.Cols {
				wantsNoPlace(t, m, i, k)
			}
		}
		for i := range m.Rows {
			for _, k := range append(beyond(), m.Cols, m.Cols+1) {
				wantsNoPlace(t, m, i, k)
			}
		}
	}
}

// TestP10_1AtFormFirst: what is not right has no place to tell of, be there such a one or not.
func TestP10_1AtFormFirst(t *testing.T) {
	for _, m := range wrong() {
		for _, place := range [][2]int{{0, 0}, {-1, 0}, {0, -1}, {m.Rows, 0}, {0, m.Cols}, {m.Rows - 1, m.Cols - 1}, {1000, 1000}, {math.MinInt, math.MaxInt}} {
			if b, e := matrix.At(m, place[0], place[1]); b != 0 || e != api.ErrForm {
				t.Errorf("%d rows, %d columns, %d numbers at %v: %x, %v", m.Rows, m.Cols, len(m.Data), place, b, e)
			}
		}
	}
}

// pairs are the calls that are handed two matrices.
func pairs() map[string]func(a, b api.Matrix) (api.Matrix, api.Errno) {
	return map[string]func(a, b api.Matrix) (api.Matrix, api.Errno){"Mul": matrix.Mul, "Sub": matrix.Sub, "Stack": matrix.Stack, "Beside": matrix.Beside}
}

// TestP10_2FormFirst: with one wrong matrix, on either side, and with two, whether their sizes would go together or not.
func TestP10_2FormFirst(t *testing.T) {
	rights := []api.Matrix{{}, of(1, 1, api.One), of(6, 6, ones(36)...), of(0, 6), of(6, 0), counted(2, 3)}
	for _, m := range wrong() {
		what := fmt.Sprintf("of %d rows, %d columns, %d numbers", m.Rows, m.Cols, len(m.Data))
		for name, call := range pairs() {
			for _, other := range rights {
				got, e := call(m, other)
				wantsNone(t, name+" "+what+" first", got, e, api.ErrForm)
				got, e = call(other, m)
				wantsNone(t, name+" "+what+" second", got, e, api.ErrForm)
			}
			got, e := call(m, m)
			wantsNone(t, name+" "+what+" twice", got, e, api.ErrForm)
		}
		got, e := matrix.Turn(m)
		wantsNone(t, "Turn "+what, got, e, api.ErrForm)
	}
}

func TestP10_2PartFormFirst(t *testing.T) {
	for _, m := range wrong() {
		what := fmt.Sprintf("Part of %d rows, %d columns, %d numbers", m.Rows, m.Cols, len(m.Data))
		for _, p := range [][4]int{{}, {0, 0, 1, 1}, {0, 0, m.Rows, m.Cols}, {-1, 0, 0, 0}, {0, -1, 0, 0}, {0, 0, -1, 0}, {0, 0, 0, -1}, {9, 9, 9, 9}, {math.MaxInt, math.MaxInt, math.MaxInt, math.MaxInt}} {
			got, e := matrix.Part(m, p[0], p[1], p[2], p[3])
			wantsNone(t, what, got, e, api.ErrForm)
		}
	}
}

// TestP10_2Shapes goes over all pairs of sizes.
func TestP10_2Shapes(t *testing.T) {
	for _, s := range sizes() {
		for _, o := range sizes() {
			a, b := counted(s[0], s[1]), counted(o[0], o[1])
			together := map[string]bool{
				"Mul":    s[1] == o[0],
				"Sub":    s == o,
				"Stack":  s[1] == o[1] && s[0]+o[0] <= 6,
				"Beside": s[0] == o[0] && s[1]+o[1] <= 6,
			}
			for name, call := range pairs() {
				got, e := call(a, b)
				if together[name] && e != api.OK {
					t.Errorf("%s of sizes %v and %v: %v", name, s, o, e)
				}
				if !together[name] {
					wantsNone(t, fmt.Sprintf("%s of sizes %v and %v", name, s, o), got, e, api.ErrShape)
				}
			}
		}
	}
}

// wantsNoPart looks after a part that does not lie in m.
func wantsNoPart(t *testing.T, m api.Matrix, i, k, rows, cols int) {
	t.Helper()
	got, e := matrix.Part(m, i, k, rows, cols)
	wantsNone(t, fmt.Sprintf("Part(%d rows, %d columns; %d, %d, %d, %d)", m.Rows, m.Cols, i, k, rows, cols), got, e, api.ErrShape)
}

// TestP10_2NoPart goes over all places and lengths near the edges: those of rows with those of columns that are right, and the other way round.
func TestP10_2NoPart(t *testing.T) {
	lies := func(from, n, end int) bool { return from >= 0 && n >= 0 && from+n <= end }
	for _, s := range sizes() {
		m := counted(s[0], s[1])
		for from := -2; from <= 9; from++ {
			for n := -2; n <= 9; n++ {
				if !lies(from, n, m.Rows) {
					wantsNoPart(t, m, from, 0, n, m.Cols)
					wantsNoPart(t, m, from, m.Cols, n, 0)
				}
				if !lies(from, n, m.Cols) {
					wantsNoPart(t, m, 0, from, m.Rows, n)
					wantsNoPart(t, m, m.Rows, from, 0, n)
				}
			}
		}
	}
}

// TestP10_2NoPartFarOut: sums of places and lengths that wrap round, to such that lie in the matrix too.
func TestP10_2NoPartFarOut(t *testing.T) {
	m := counted(3, 4)
	for _, n := range beyond() {
		for _, o := range append(beyond(), 0, 1, 2, 3, -n, 3-n) {
			wantsNoPart(t, m, n, 0, o, 4)
			wantsNoPart(t, m, o, 0, n, 4)
			wantsNoPart(t, m, 0, n, 3, o)
			wantsNoPart(t, m, 0, o, 3, n)
		}
	}
	wantsNoPart(t, m, math.MaxInt, math.MaxInt, 1, 1)
	wantsNoPart(t, m, math.MaxInt, math.MaxInt, math.MaxInt, math.MaxInt)
	wantsNoPart(t, m, 1, 1, math.MaxInt, math.MaxInt)
	wantsNoPart(t, m, math.MinInt, math.MinInt, math.MinInt, math.MinInt)
	wantsNoPart(t, m, 4, 0, 0, 4)
	wantsNoPart(t, m, 0, 5, 3, 0)
}
