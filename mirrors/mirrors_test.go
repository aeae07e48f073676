package mirrors_test

import (
	"slices"
	"testing"

	"dioptra/api"
	"dioptra/house"
	"dioptra/matrix"
	"dioptra/mirrors"
)

const (
	three    = api.Bits(0x4008000000000000)
	four     = api.Bits(0x4010000000000000)
	minusOne = api.One | api.NegZero
	five     = api.Bits(0x4014000000000000)
	greatest = api.Inf - 1
)

// of is a matrix of these numbers.
func of(rows, cols int, data ...api.Bits) api.Matrix {
	return api.Matrix{Rows: rows, Cols: cols, Data: data}
}

func same(a, b api.Matrix) bool {
	return a.Rows == b.Rows && a.Cols == b.Cols && slices.Equal(a.Data, b.Data)
}

// ordinary is a matrix of 4 rows and 3 columns, none of whose numbers is a nought.
func ordinary() api.Matrix {
	m := of(4, 3)
	for i := range 12 {
		m.Data = append(m.Data, three+api.Bits(i*i)<<45|api.Bits(i%3)<<63)
	}
	return m
}

// TestP1Down: at each place r is what house makes of it, with beta on the diagonal and Zero below it; what is handed in stays as it was.
func TestP1Down(t *testing.T) {
	for j := range 3 {
		a := ordinary()
		column, _ := matrix.Part(a, j, j, a.Rows-j, 1)
		v, tau, beta, _ := house.Make(column.Data)
		want, _ := house.Apply(a, j, j, v, tau)
		want.Data[j*3+j] = beta
		for i := j + 1; i < 4; i++ {
			want.Data[i*3+j] = api.Zero
		}
		if got, _, e := mirrors.Down(a, j); !same(got, want) || e != api.OK {
			t.Errorf("column %d: %x, %v; wanted %x", j, got, e, want)
		}
		if !same(a, ordinary()) {
			t.Errorf("column %d: what was handed in became %x", j, a)
		}
	}
	if got, _, e := mirrors.Down(of(2, 1, three, four), 0); !same(got, of(2, 1, five|api.NegZero, api.Zero)) || e != api.OK {
		t.Errorf("of 3 and 4: %x, %v", got, e)
	}
}

// TestP1DownRange: no mirror, whether numbers are too great or not finite.
func TestP1DownRange(t *testing.T) {
	for _, m := range []api.Matrix{of(2, 1, greatest, greatest), of(2, 1, greatest, 1), of(2, 1, api.One, api.Inf), of(2, 1, api.NaN, api.One)} {
		if got, _, e := mirrors.Down(m, 0); got.Rows != 0 || got.Cols != 0 || len(got.Data) != 0 || e != api.ErrRange {
			t.Errorf("%x: %x, %v", m, got, e)
		}
	}
}

// TestP1Upright: of no mirror it is Eye; of more than one the last one's turn is first.
func TestP1Upright(t *testing.T) {
	for n := range api.MaxDim + 1 {
		want, _ := matrix.Eye(n)
		if got := mirrors.Upright(n, nil); !same(got, want) {
			t.Errorf("of %d rows and no mirror: %x", n, got)
		}
	}
	round := of(3, 3, api.Zero, api.Zero, api.One, api.One, api.Zero, api.Zero, api.Zero, api.One, api.Zero)
	r, first, _ := mirrors.Down(round, 0)
	_, second, _ := mirrors.Down(r, 1)
	want := of(3, 3, api.Zero, api.Zero, api.One, minusOne, api.Zero, api.Zero, api.Zero, minusOne, api.Zero)
	for range 2 { // a second time it is the same, in memory of its own
		got := mirrors.Upright(3, []mirrors.Mirror{first, second})
		if !same(got, want) {
			t.Errorf("of two mirrors: %x", got)
		}
		clear(got.Data)
	}
}
