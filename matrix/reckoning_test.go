package matrix_test

import (
	"fmt"
	"slices"
	"testing"

	"dioptra/api"
	"dioptra/matrix"
	"dioptra/sum"
	"dioptra/vector"
)

// column is m's column k, as a list.
func column(m api.Matrix, k int) []api.Bits {
	var list []api.Bits
	for i := range m.Rows {
		list = append(list, m.Data[i*m.Cols+k])
	}
	return list
}

// products is a times b, by Dot of rows and columns.
func products(a, b api.Matrix) api.Matrix {
	m := of(a.Rows, b.Cols)
	for i := range a.Rows {
		for k := range b.Cols {
			dot, _ := vector.Dot(a.Data[i*a.Cols:(i+1)*a.Cols], column(b, k))
			m.Data = append(m.Data, dot)
		}
	}
	return m
}

// gosProducts is a times b, by the machine's own numbers. The conversions keep it from rounding once for two operations.
func gosProducts(a, b api.Matrix) api.Matrix {
	m := of(a.Rows, b.Cols)
	for i := range a.Rows {
		for k := range b.Cols {
			s := 0.0
			for j := range a.Cols {
				s = float64(s + float64(float(a.Data[i*a.Cols+j])*float(b.Data[j*b.Cols+k])))
			}
			m.Data = append(m.Data, says(s))
		}
	}
	return m
}

func wantsMul(t *testing.T, a, b, want api.Matrix) {
	t.Helper()
	m, e := matrix.Mul(a, b)
	wants(t, fmt.Sprintf("%x times %x", a, b), m, e, want)
}

// triples are sizes of two matrices that can be multiplied: all of them.
func triples() [][3]int {
	var list [][3]int
	for _, s := range sizes() {
		for n := range api.MaxDim + 1 {
			list = append(list, [3]int{s[0], s[1], n})
		}
	}
	return list
}

// TestP10_2Mul: each sort of numbers with one of the same sort, and with one of another.
func TestP10_2Mul(t *testing.T) {
	d := dice(103)
	sorts := d.sorts()
	for _, s := range triples() {
		for _, pick := range sorts {
			a := picked(s[0], s[1], pick)
			for _, b := range []api.Matrix{picked(s[1], s[2], pick), picked(s[1], s[2], sorts[d.below(len(sorts))])} {
				wantsMul(t, a, b, products(a, b))
				wantsMul(t, a, b, gosProducts(a, b))
			}
		}
	}
}

func TestP10_2MulOfFew(t *testing.T) {
	a := of(2, 2, api.One, two, three, four)
	wantsMul(t, a, of(2, 1, api.One, api.One), of(2, 1, three, 0x401c000000000000))
	wantsMul(t, of(1, 2, api.One, api.One), a, of(1, 2, four, 0x4018000000000000))
	wantsMul(t, a, a, of(2, 2, 0x401c000000000000, 0x4024000000000000, 0x402e000000000000, 0x4036000000000000))
	wantsMul(t, of(2, 1, two, minus(two)), of(1, 2, api.One, three), of(2, 2, two, 0x4018000000000000, minus(two), 0xc018000000000000))
	wantsMul(t, of(1, 1, api.NaN+1), of(1, 1, api.One), of(1, 1, api.NaN))
	wantsMul(t, of(1, 1, api.Inf), of(1, 1, api.NegZero), of(1, 1, api.NaN))
	wantsMul(t, of(1, 1, api.One), of(1, 1, api.NegZero), of(1, 1, api.Zero)) // a sum begins at Zero
	wantsMul(t, of(6, 6, ones(36)...), of(6, 6, ones(36)...), of(6, 6, slices.Repeat([]api.Bits{0x4018000000000000}, 36)...))
}

// TestP10_2MulInOrder: sums that another order, or one rounding for two, would make another number.
func TestP10_2MulInOrder(t *testing.T) {
	half := power(-53) // of the step of numbers from One on
	wantsMul(t, of(2, 3, api.One, half, half, half, half, api.One), of(3, 1, ones(3)...), of(2, 1, api.One, api.One+1))
	wantsMul(t, of(1, 2, api.One+2, api.One+1), of(2, 1, minus(api.One), api.One+1), of(1, 1, api.Zero))
	wantsMul(t, of(1, 3, greatest, greatest, minus(greatest)), of(3, 1, ones(3)...), of(1, 1, api.Inf))
}

// TestP10_2MulOfNothing: where there is nothing to be summed, Zero is told.
func TestP10_2MulOfNothing(t *testing.T) {
	for _, s := range sizes() {
		wantsMul(t, of(s[0], 0), of(0, s[1]), of(s[0], s[1], make([]api.Bits, s[0]*s[1])...))
		wantsMul(t, of(0, s[0]), counted(s[0], s[1]), of(0, s[1]))
		wantsMul(t, counted(s[0], s[1]), of(s[1], 0), of(s[0], 0))
	}
}

func wantsSub(t *testing.T, a, b, want api.Matrix) {
	t.Helper()
	m, e := matrix.Sub(a, b)
	wants(t, fmt.Sprintf("%x less %x", a, b), m, e, want)
}

func TestP10_2Sub(t *testing.T) {
	d := dice(104)
	sorts := d.sorts()
	for _, s := range sizes() {
		for _, pick := range sorts {
			a := picked(s[0], s[1], pick)
			for _, b := range []api.Matrix{picked(s[0], s[1], pick), picked(s[0], s[1], sorts[d.below(len(sorts))])} {
				ours, gos := of(s[0], s[1]), of(s[0], s[1])
				for i := range a.Data {
					less, _ := sum.Sub(a.Data[i], b.Data[i])
					ours.Data = append(ours.Data, less)
					gos.Data = append(gos.Data, says(float(a.Data[i])-float(b.Data[i])))
				}
				wantsSub(t, a, b, ours)
				wantsSub(t, a, b, gos)
			}
		}
	}
}

// TestP10_2SubOfAllKinds: each number less each.
func TestP10_2SubOfAllKinds(t *testing.T) {
	for _, a := range all() {
		for _, b := range all() {
			wantsSub(t, of(1, 1, a), of(1, 1, b), of(1, 1, says(float(a)-float(b))))
		}
	}
	wantsSub(t, of(2, 2, api.Zero, api.Zero, api.NegZero, api.NegZero), of(2, 2, api.Zero, api.NegZero, api.Zero, api.NegZero), of(2, 2, api.Zero, api.Zero, api.NegZero, api.Zero))
	wantsSub(t, of(1, 3, api.Inf, api.Inf, five), of(1, 3, api.Inf, api.NegInf, three), of(1, 3, api.NaN, api.Inf, two))
}

// corners are matrices of each size, of unlike numbers and of numbers of all kinds, which are to be handed on as they are.
func corners() []api.Matrix {
	d := dice(105)
	var list []api.Matrix
	for _, s := range sizes() {
		list = append(list, counted(s[0], s[1]), picked(s[0], s[1], d.out(all())), picked(s[0], s[1], d.out(noNumbers())))
	}
	return list
}

func TestP10_2Turn(t *testing.T) {
	for _, m := range corners() {
		want := of(m.Cols, m.Rows)
		for k := range m.Cols {
			want.Data = append(want.Data, column(m, k)...)
		}
		got, e := matrix.Turn(m)
		wants(t, fmt.Sprintf("%x turned", m), got, e, want)
	}
	got, e := matrix.Turn(of(1, 2, api.One, two))
	wants(t, "one row turned", got, e, of(2, 1, api.One, two))
}

// cut is the part of m, row by row.
func cut(m api.Matrix, i, k, rows, cols int) api.Matrix {
	part := of(rows, cols)
	for r := range rows {
		part.Data = append(part.Data, m.Data[(i+r)*m.Cols+k:][:cols]...)
	}
	return part
}

// TestP10_2Part: all parts of all sizes, those of no rows or no columns at the very end among them.
func TestP10_2Part(t *testing.T) {
	for _, m := range corners() {
		for i := range m.Rows + 1 {
			for rows := range m.Rows - i + 1 {
				for k := range m.Cols + 1 {
					for cols := range m.Cols - k + 1 {
						want := of(rows, cols)
						if rows > 0 && cols > 0 {
							want = cut(m, i, k, rows, cols)
						}
						got, e := matrix.Part(m, i, k, rows, cols)
						wants(t, fmt.Sprintf("Part(%x, %d, %d, %d, %d)", m, i, k, rows, cols), got, e, want)
					}
				}
			}
		}
	}
}

func TestP10_2PartOfFew(t *testing.T) {
	m := of(2, 3, 1, 2, 3, 4, 5, 6)
	for _, c := range []struct {
		i, k int
		want api.Matrix
	}{
		{0, 0, m}, {0, 1, of(2, 2, 2, 3, 5, 6)}, {1, 0, of(1, 3, 4, 5, 6)}, {1, 2, of(1, 1, 6)}, {0, 2, of(2, 1, 3, 6)},
		{2, 3, of(0, 0)}, {2, 0, of(0, 3)}, {0, 3, of(2, 0)}, {1, 1, of(0, 2)}, {1, 1, of(1, 0)},
	} {
		got, e := matrix.Part(m, c.i, c.k, c.want.Rows, c.want.Cols)
		wants(t, fmt.Sprintf("from %d, %d on", c.i, c.k), got, e, c.want)
	}
}

// TestP10_2StackAndBeside: all sizes that go together, with numbers of all kinds.
func TestP10_2StackAndBeside(t *testing.T) {
	d := dice(106)
	for _, s := range sizes() {
		for n := range api.MaxDim - s[0] + 1 {
			for _, pick := range []func() api.Bits{d.out(all()), d.any()} {
				a, b := picked(s[0], s[1], pick), picked(n, s[1], pick)
				got, e := matrix.Stack(a, b)
				wants(t, fmt.Sprintf("%x on %x", a, b), got, e, of(s[0]+n, s[1], slices.Concat(a.Data, b.Data)...))
			}
		}
		for n := range api.MaxDim - s[1] + 1 {
			for _, pick := range []func() api.Bits{d.out(all()), d.any()} {
				a, b := picked(s[0], s[1], pick), picked(s[0], n, pick)
				want := of(s[0], s[1]+n)
				for i := range s[0] {
					want.Data = slices.Concat(want.Data, a.Data[i*s[1]:][:s[1]], b.Data[i*n:][:n])
				}
				got, e := matrix.Beside(a, b)
				wants(t, fmt.Sprintf("%x beside %x", a, b), got, e, want)
			}
		}
	}
}

func TestP10_2PutTogetherOfFew(t *testing.T) {
	a := of(2, 2, 1, 2, 3, 4)
	got, e := matrix.Stack(a, of(1, 2, 5, 6))
	wants(t, "below", got, e, of(3, 2, 1, 2, 3, 4, 5, 6))
	got, e = matrix.Stack(of(1, 2, 5, 6), a)
	wants(t, "above", got, e, of(3, 2, 5, 6, 1, 2, 3, 4))
	got, e = matrix.Beside(a, of(2, 1, 5, 6))
	wants(t, "on the right", got, e, of(2, 3, 1, 2, 5, 3, 4, 6))
	got, e = matrix.Beside(of(2, 1, 5, 6), a)
	wants(t, "on the left", got, e, of(2, 3, 5, 1, 2, 6, 3, 4))
}

// TestP10_2JustMaxDim: as many rows or columns together as there may be, and one more, of no other size too.
func TestP10_2JustMaxDim(t *testing.T) {
	for n := range api.MaxDim + 1 {
		for other := range api.MaxDim + 1 {
			got, e := matrix.Stack(counted(n, other), counted(6-n, other))
			if got.Rows != 6 || got.Cols != other || e != api.OK {
				t.Errorf("%d rows and %d of %d columns: %x, %v", n, 6-n, other, got, e)
			}
			got, e = matrix.Beside(counted(other, n), counted(other, 6-n))
			if got.Cols != 6 || got.Rows != other || e != api.OK {
				t.Errorf("%d columns and %d of %d rows: %x, %v", n, 6-n, other, got, e)
			}
			if n > 0 {
				got, e = matrix.Stack(counted(n, other), counted(7-n, other))
				wantsNone(t, "7 rows", got, e, api.ErrShape)
				got, e = matrix.Beside(counted(other, n), counted(other, 7-n))
				wantsNone(t, "7 columns", got, e, api.ErrShape)
			}
		}
	}
}
