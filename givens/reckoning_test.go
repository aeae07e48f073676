package givens_test

import (
	"fmt"
	"math"
	"testing"

	"dioptra/api"
	"dioptra/givens"
	"dioptra/matrix"
	"dioptra/vector"
)

// gosTurn is the turn by the machine's own numbers. The conversions keep it from rounding once for two operations.
func gosTurn(f, g api.Bits) (c, s, r api.Bits) {
	switch {
	case float(g) == 0:
		return api.One, api.Zero, f
	case float(f) == 0:
		return api.Zero, api.One, g
	}
	k := math.Ilogb(max(math.Abs(float(f)), math.Abs(float(g))))
	a, b := math.Ldexp(float(f), -k), math.Ldexp(float(g), -k)
	n := math.Sqrt(float64(float64(a*a) + float64(b*b)))
	return says(a / n), says(b / n), says(math.Ldexp(n, k))
}

func wantsGos(t *testing.T, f, g api.Bits) {
	t.Helper()
	c, s, r := gosTurn(f, g)
	wantsTurn(t, f, g, c, s, r)
}

// TestP12_1OfEdges: each finite number with each: of both signs, of very unlike sizes, the greatest and the least.
func TestP12_1OfEdges(t *testing.T) {
	for _, f := range finites() {
		for _, g := range finites() {
			wantsGos(t, f, g)
		}
	}
}

func TestP12_1GosOwn(t *testing.T) {
	d := dice(1202)
	for _, pick := range append(d.middle(), d.finite(), d.near(-1022, 4), d.near(-1022, 2046), d.near(1020, 4), d.out(finites())) {
		for range 2000 {
			wantsGos(t, pick(), pick())
		}
	}
}

// TestP12_1Apart: numbers whose powers are so far apart that the smaller one is lost in the sum, just not so, or nought when it is scaled.
func TestP12_1Apart(t *testing.T) {
	d := dice(1203)
	for apart := range 2046 {
		for _, e := range []int{-1022, -1022 + (2045-apart)/2, 1023 - apart} {
			f, g := d.near(e, 1)(), d.near(e+apart, 1)()
			wantsGos(t, f, g)
			wantsGos(t, g, f)
		}
		tiny := api.Bits(1 + d.below(1<<52-1))
		wantsGos(t, tiny, d.near(apart-1022, 1)())
		wantsGos(t, d.near(apart-1022, 1)(), minus(tiny))
	}
}

func TestP12_1ByHand(t *testing.T) {
	wantsTurn(t, three, four, 0x3fe3333333333333, 0x3fe999999999999a, five)
	wantsTurn(t, minus(four), three, minus(0x3fe999999999999a), 0x3fe3333333333333, five)
	wantsTurn(t, api.Zero, two, api.Zero, api.One, two)
	wantsTurn(t, minus(two), api.NegZero, api.One, api.Zero, minus(two))
	wantsTurn(t, api.NegZero, minus(two), api.Zero, api.One, minus(two))
	wantsTurn(t, api.NegZero, api.Zero, api.One, api.Zero, api.NegZero)
	wantsTurn(t, api.NegZero, api.NegZero, api.One, api.Zero, api.NegZero)
	wantsTurn(t, api.Zero, api.NegZero, api.One, api.Zero, api.Zero)
	wantsTurn(t, api.Zero, api.Zero, api.One, api.Zero, api.Zero)
	half := api.Bits(0x3fe6a09e667f3bcc) // One by the root of 2, in binary64
	wantsTurn(t, greatest, minus(greatest), half, minus(half), api.Inf)
	wantsTurn(t, power(1000), power(1000), half, half, 0x7e76a09e667f3bcd)
	wantsTurn(t, least, least, half, half, least) // 2^-1074 times the root of 2
	wantsTurn(t, least, greatest, api.Zero, api.One, greatest)
	wantsTurn(t, minus(greatest), minus(least), minus(api.One), api.NegZero, greatest)
}

// TestP12_1Norm: r is the norm of f and g, wherever neither is a nought.
func TestP12_1Norm(t *testing.T) {
	d := dice(1204)
	for _, pick := range append(d.middle(), d.finite(), d.out(numbers())) {
		for range 300 {
			f, g := pick(), pick()
			if float(f) == 0 || float(g) == 0 {
				continue
			}
			want, _ := vector.Norm([]api.Bits{f, g})
			if _, _, r, e := givens.Turn(f, g); r != want || e != api.OK {
				t.Errorf("Turn(%x, %x): %x, %v; wanted %x", f, g, r, e, want)
			}
		}
	}
}

// gosRows is m with two rows turned, by the machine's own numbers; the other numbers are as they were.
func gosRows(m api.Matrix, i, k int, c, s api.Bits) api.Matrix {
	t := of(m.Rows, m.Cols, append([]api.Bits{}, m.Data...)...)
	for j := range m.Cols {
		x, y := float(m.Data[i*m.Cols+j]), float(m.Data[k*m.Cols+j])
		t.Data[i*m.Cols+j] = says(float64(float(c)*x) + float64(float(s)*y))
		t.Data[k*m.Cols+j] = says(float64(float(c)*y) - float64(float(s)*x))
	}
	return t
}

// wantsBoth looks after two turned rows of m, and after the same ones as columns.
func wantsBoth(t *testing.T, m api.Matrix, i, k int, c, s api.Bits, want api.Matrix) {
	t.Helper()
	got, e := givens.Rows(m, i, k, c, s)
	wants(t, fmt.Sprintf("Rows(%x, %d, %d, %x, %x)", m, i, k, c, s), got, e, want)
	got, e = givens.Cols(sidewise(m), i, k, c, s)
	wants(t, fmt.Sprintf("Cols(%x, %d, %d, %x, %x)", sidewise(m), i, k, c, s), got, e, sidewise(want))
}

// sorts are several sorts of numbers, not finite ones too.
func (d *dice) sorts() []func() api.Bits {
	return append(d.middle(), d.near(1020, 4), d.near(508, 8), d.near(-545, 16), d.near(-1022, 4), d.out(finites()), d.out(all()), d.any(), d.out(noughts()))
}

// TestP12_2GosOwn goes over all sizes and all pairs of rows, with c and s of a turn, and of any bits.
func TestP12_2GosOwn(t *testing.T) {
	d := dice(1205)
	for _, size := range sizes() {
		for _, pick := range d.sorts() {
			m := picked(size[0], size[1], pick)
			for i := range m.Rows {
				for k := range m.Rows {
					if i == k {
						continue
					}
					c, s, _ := gosTurn(d.near(-3, 6)(), d.near(-3, 6)())
					wantsBoth(t, m, i, k, c, s, gosRows(m, i, k, c, s))
					c, s = pick(), d.out(all())()
					wantsBoth(t, m, i, k, c, s, gosRows(m, i, k, c, s))
				}
			}
		}
	}
}

// TestP12_2OfAllKinds: each c with each s, on numbers of all kinds.
func TestP12_2OfAllKinds(t *testing.T) {
	d := dice(1206)
	for _, c := range all() {
		for _, s := range all() {
			m := picked(3, 4, d.out(all()))
			wantsBoth(t, m, 2, 0, c, s, gosRows(m, 2, 0, c, s))
		}
	}
}

// TestP12_2ByHand: which row is which, what stays as it was, and one sum of two rounded products.
func TestP12_2ByHand(t *testing.T) {
	m := of(3, 2, api.One, two, three, four, five, minus(api.One))
	wantsBoth(t, m, 0, 1, api.Zero, api.One, of(3, 2, three, four, minus(api.One), minus(two), five, minus(api.One)))
	wantsBoth(t, m, 1, 0, api.Zero, api.One, of(3, 2, minus(three), minus(four), api.One, two, five, minus(api.One)))
	wantsBoth(t, m, 0, 2, two, three, of(3, 2, 0x4031000000000000, api.One, three, four, 0x401c000000000000, minus(0x4020000000000000)))
	others := of(3, 1, three, api.NaN+7, four)
	wantsBoth(t, others, 0, 2, api.Zero, api.One, of(3, 1, four, api.NaN+7, minus(three)))
	wantsBoth(t, others, 0, 1, api.Zero, api.One, of(3, 1, api.NaN, api.NaN, four))
	wantsBoth(t, of(2, 1, api.NegZero, api.NegZero), 0, 1, api.One, api.One, of(2, 1, api.NegZero, api.Zero))
	wantsBoth(t, of(2, 1, api.One, api.One), 0, 1, api.Inf, api.Inf, of(2, 1, api.Inf, api.NaN))
	near := api.One + 1 // whose square, rounded, is One + 2, and lacks 2^-104
	wantsBoth(t, of(2, 1, near, minus(api.One+2)), 0, 1, near, api.One, of(2, 1, api.Zero, minus(0x4000000000000002)))
	wantsBoth(t, of(2, 1, near, api.One+2), 0, 1, api.One, near, of(2, 1, 0x4000000000000002, api.Zero))
}

// TestP12_2ColsAreRows: Cols is Rows of the rows as columns, made columns again.
func TestP12_2ColsAreRows(t *testing.T) {
	d := dice(1207)
	for _, size := range sizes() {
		for _, pick := range d.sorts() {
			m := picked(size[0], size[1], pick)
			for i := range m.Cols {
				for k := range m.Cols {
					if i == k {
						continue
					}
					c, s := pick(), pick()
					lying, _ := matrix.Turn(m)
					lying, _ = givens.Rows(lying, i, k, c, s)
					want, _ := matrix.Turn(lying)
					got, e := givens.Cols(m, i, k, c, s)
					wants(t, fmt.Sprintf("Cols(%x, %d, %d, %x, %x)", m, i, k, c, s), got, e, want)
				}
			}
		}
	}
}
