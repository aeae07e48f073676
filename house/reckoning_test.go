package house_test

import (
	"fmt"
	"math"
	"slices"
	"testing"

	"dioptra/api"
	"dioptra/house"
	"dioptra/matrix"
	"dioptra/vector"
)

// gosDot is the sum of products by the machine's own numbers. The conversions keep it from rounding once for two operations.
func gosDot(x, y []float64) float64 {
	s := 0.0
	for i := range x {
		s = float64(s + float64(x[i]*y[i]))
	}
	return s
}

// gosNorm is the norm of numbers that are finite.
func gosNorm(x []float64) float64 {
	most := 0.0
	for _, f := range x {
		most = max(most, math.Abs(f))
	}
	if most == 0 {
		return 0
	}
	k := math.Ilogb(most)
	t := make([]float64, len(x))
	for i, f := range x {
		t[i] = math.Ldexp(f, -k)
	}
	return math.Ldexp(math.Sqrt(gosDot(t, t)), k)
}

func floats(x []api.Bits) []float64 {
	f := make([]float64, len(x))
	for i, b := range x {
		f[i] = float(b)
	}
	return f
}

// gosMirror is the mirror of finite numbers by the machine's own ones, or ErrRange.
func gosMirror(x []api.Bits) (v []api.Bits, tau, beta api.Bits, e api.Errno) {
	f := floats(x)
	v = append([]api.Bits{api.One}, make([]api.Bits, len(x)-1)...)
	others := func(b float64) bool { return b != 0 }
	if !slices.ContainsFunc(f[1:], others) {
		return v, api.Zero, x[0], api.OK
	}
	a, b := f[0], -gosNorm(f)
	if f[slices.IndexFunc(f, others)] < 0 {
		b = -b
	}
	d := a - b
	if !isFinite(b) || !isFinite(d) {
		return nil, 0, 0, api.ErrRange
	}
	for i := range f[1:] {
		v[1+i] = says(f[1+i] / d)
	}
	return v, says(float64(b-a) / b), says(b), api.OK
}

func wantsGos(t *testing.T, x []api.Bits) {
	t.Helper()
	if v, tau, beta, e := gosMirror(x); e != api.OK {
		wantsNoMirror(t, x, e)
	} else {
		wantsMirror(t, x, v, tau, beta)
	}
}

// TestP13_1OfEdges: each finite number with each, and with a third one: of both signs, of very unlike sizes, the greatest and the least.
func TestP13_1OfEdges(t *testing.T) {
	for _, a := range finites() {
		wantsGos(t, []api.Bits{a})
		for _, b := range finites() {
			wantsGos(t, []api.Bits{a, b})
			for _, c := range []api.Bits{api.Zero, api.NegZero, least, minus(three), power(1000), greatest, minus(greatest)} {
				wantsGos(t, []api.Bits{a, b, c})
			}
		}
	}
}

func TestP13_1GosOwn(t *testing.T) {
	d := dice(1306)
	for _, pick := range d.sorts() {
		for n := 1; n <= api.MaxLong; n++ {
			for range 6 {
				wantsGos(t, list(n, pick))
			}
		}
		for range 300 {
			wantsGos(t, list(2, pick))
			wantsGos(t, list(3, pick))
			wantsGos(t, list(1+d.below(6), pick))
		}
	}
}

// TestP13_1Mixed: a first number of one sort, the others of another one.
func TestP13_1Mixed(t *testing.T) {
	d := dice(1307)
	for _, first := range d.sorts() {
		for _, pick := range d.sorts() {
			for _, n := range []int{1, 2, 5, 63} {
				for range 3 {
					wantsGos(t, append([]api.Bits{first()}, list(n, pick)...))
				}
			}
		}
	}
}

// TestP13_1Apart: numbers whose powers are so far apart that the smaller one is lost in the norm, just not so, or nought when it is scaled or divided.
func TestP13_1Apart(t *testing.T) {
	d := dice(1308)
	for apart := range 2046 {
		for _, e := range []int{-1022, -1022 + (2045-apart)/2, 1023 - apart} {
			small, great := d.near(e, 1)(), d.near(e+apart, 1)()
			wantsGos(t, []api.Bits{small, great})
			wantsGos(t, []api.Bits{great, small})
		}
		wantsGos(t, []api.Bits{d.tiny()(), d.near(apart-1022, 1)()})
		wantsGos(t, []api.Bits{d.near(apart-1022, 1)(), d.tiny()()})
	}
}

// TestP13_1TooGreat: at the top, where some norms are finite and some are not, and some less the first number.
func TestP13_1TooGreat(t *testing.T) {
	d := dice(1309)
	count := map[api.Errno]int{}
	for range 6000 {
		x := append(list(1, d.near(1021, 3)), list(1+d.below(3), d.near(1020, 4))...)
		_, _, _, e := gosMirror(x)
		count[e]++
		wantsGos(t, x)
	}
	if count[api.OK] < 1000 || count[api.ErrRange] < 1000 {
		t.Errorf("of which sort: %v", count)
	}
}

func TestP13_1ByHand(t *testing.T) {
	sixths := api.Bits(0x3ff999999999999a) // 1.6
	wantsMirror(t, []api.Bits{three, four}, []api.Bits{api.One, half}, sixths, minus(five))
	wantsMirror(t, []api.Bits{minus(three), four}, []api.Bits{api.One, minus(half)}, sixths, five)
	wantsMirror(t, []api.Bits{three, minus(four)}, []api.Bits{api.One, minus(half)}, sixths, minus(five))
	wantsMirror(t, []api.Bits{minus(three), minus(four)}, []api.Bits{api.One, half}, sixths, five)
	wantsMirror(t, []api.Bits{four, three}, []api.Bits{api.One, 0x3fd5555555555555}, 0x3ffccccccccccccd, minus(five))
	wantsMirror(t, []api.Bits{three, api.NegZero, four}, []api.Bits{api.One, api.NegZero, half}, sixths, minus(five))
	wantsMirror(t, []api.Bits{api.Zero, four}, []api.Bits{api.One, api.One}, api.One, minus(four))
	wantsMirror(t, []api.Bits{api.NegZero, four}, []api.Bits{api.One, api.One}, api.One, minus(four))
	wantsMirror(t, []api.Bits{api.Zero, minus(four)}, []api.Bits{api.One, api.One}, api.One, four)
	wantsMirror(t, []api.Bits{api.NegZero, minus(four)}, []api.Bits{api.One, api.One}, api.One, four)
	wantsMirror(t, []api.Bits{api.NegZero, api.Zero, minus(three), four}, []api.Bits{api.One, api.NegZero, 0x3fe3333333333333, minus(0x3fe999999999999a)}, api.One, five)
	wantsMirror(t, []api.Bits{four, api.NegZero}, []api.Bits{api.One, api.Zero}, api.Zero, four)
	wantsMirror(t, []api.Bits{minus(four)}, []api.Bits{api.One}, api.Zero, minus(four))
	wantsMirror(t, []api.Bits{api.NegZero, api.NegZero}, []api.Bits{api.One, api.Zero}, api.Zero, api.NegZero)
	wantsMirror(t, []api.Bits{least, least}, []api.Bits{api.One, half}, two, minus(least)) // the norm is 2^-1074
	wantsMirror(t, []api.Bits{least, greatest}, []api.Bits{api.One, api.One}, api.One, minus(greatest))
	wantsMirror(t, []api.Bits{minus(power(1022)), least}, []api.Bits{api.One, api.NegZero}, two, power(1022))
	wantsMirror(t, ones(64), append([]api.Bits{api.One}, slices.Repeat([]api.Bits{0x3fbc71c71c71c71c}, 63)...), 0x3ff2000000000000, minus(power(3)))
}

// TestP13_1Norm: mu is what the layer below says.
func TestP13_1Norm(t *testing.T) {
	d := dice(1310)
	for _, pick := range d.sorts() {
		for n := 1; n <= api.MaxLong; n++ {
			x := list(n, pick)
			_, _, beta, e := house.Make(x)
			if want, _ := vector.Norm(x); e == api.OK && beta&^api.NegZero != want {
				t.Errorf("Make(%s): beta %x; wanted %x", show(x), beta, want)
			}
		}
	}
}

// gosApplied is m mirrored by the machine's own numbers; the other numbers are as they were.
func gosApplied(m api.Matrix, i, k int, v []api.Bits, tau api.Bits) api.Matrix {
	r := of(m.Rows, m.Cols, slices.Clone(m.Data)...)
	for c := k; c < m.Cols; c++ {
		var column []float64
		for j := range v {
			column = append(column, float(m.Data[(i+j)*m.Cols+c]))
		}
		t := float(tau) * gosDot(floats(v), column)
		for j := range v {
			r.Data[(i+j)*m.Cols+c] = says(column[j] - float64(t*float(v[j])))
		}
	}
	return r
}

func wantsApplied(t *testing.T, m api.Matrix, i, k int, v []api.Bits, tau api.Bits, want api.Matrix) {
	t.Helper()
	got, e := house.Apply(m, i, k, v, tau)
	wants(t, fmt.Sprintf("Apply(%x, %d, %d, %x, %x)", m, i, k, v, tau), got, e, want)
}

// TestP13_2GosOwn goes over all sizes and all parts, with v and tau of a mirror, and of any bits.
func TestP13_2GosOwn(t *testing.T) {
	d := dice(1311)
	sorts := append(d.sorts(), d.out(all()), d.any())
	for _, size := range sizes() {
		for i := range size[0] + 1 {
			for k := range size[1] + 1 {
				for n := range size[0] - i + 1 {
					pick := sorts[d.below(len(sorts))]
					m := picked(size[0], size[1], pick)
					v, tau, _, _ := gosMirror(list(1+n, d.near(-3, 6)))
					v = v[:n]
					wantsApplied(t, m, i, k, v, tau, gosApplied(m, i, k, v, tau))
					v, tau = list(n, pick), sorts[d.below(len(sorts))]()
					wantsApplied(t, m, i, k, v, tau, gosApplied(m, i, k, v, tau))
				}
			}
		}
	}
}

// TestP13_2EachSort: matrices of just MaxDim rows and columns, of numbers of each sort.
func TestP13_2EachSort(t *testing.T) {
	d := dice(1312)
	for _, pick := range append(d.sorts(), d.out(all()), d.any()) {
		for range 20 {
			m := picked(6, 6, pick)
			v, tau := list(6, d.near(-3, 6)), d.near(0, 1)()
			wantsApplied(t, m, 0, 0, v, tau, gosApplied(m, 0, 0, v, tau))
			v, tau = list(4, pick), pick()
			wantsApplied(t, m, 1, 2, v, tau, gosApplied(m, 1, 2, v, tau))
		}
	}
}

// TestP13_2OfAllKinds: each tau with each first number of v, on numbers of all kinds.
func TestP13_2OfAllKinds(t *testing.T) {
	d := dice(1313)
	for _, tau := range all() {
		for _, b := range all() {
			m, v := picked(3, 3, d.out(all())), []api.Bits{b, d.out(all())()}
			wantsApplied(t, m, 1, 0, v, tau, gosApplied(m, 1, 0, v, tau))
		}
	}
}

// TestP13_2ByHand: which rows and columns change and which stay as they were, what is multiplied first, and where it is rounded.
func TestP13_2ByHand(t *testing.T) {
	m := of(3, 2, api.One, two, three, four, five, minus(api.One))
	wantsApplied(t, m, 0, 0, []api.Bits{api.One}, two, of(3, 2, minus(api.One), minus(two), three, four, five, minus(api.One)))
	wantsApplied(t, m, 1, 1, []api.Bits{api.One, two}, api.One, of(3, 2, api.One, two, three, two, five, minus(five)))
	wantsApplied(t, m, 2, 0, []api.Bits{two}, half, of(3, 2, api.One, two, three, four, minus(five), api.One))
	wantsApplied(t, m, 1, 2, []api.Bits{api.NaN, api.Inf}, api.NaN, m)
	wantsApplied(t, m, 3, 0, nil, api.NaN, m)
	wantsApplied(t, m, 0, 0, []api.Bits{}, api.Inf, m)
	others := of(2, 2, api.NaN+7, api.One, api.NaN+9, api.One)
	wantsApplied(t, others, 1, 0, []api.Bits{api.One}, api.Zero, of(2, 2, api.NaN+7, api.One, api.NaN, api.One))
	wantsApplied(t, others, 0, 1, []api.Bits{api.One, api.One}, api.Inf, of(2, 2, api.NaN+7, api.NegInf, api.NaN+9, api.NegInf))
	wantsApplied(t, of(1, 1, api.NegZero), 0, 0, []api.Bits{api.One}, api.Zero, of(1, 1, api.NegZero))
	wantsApplied(t, of(1, 1, api.NegZero), 0, 0, []api.Bits{api.One}, api.NegZero, of(1, 1, api.Zero)) // w is Zero, since the sum begins there
	great := of(2, 1, power(1000), power(1000))
	wantsApplied(t, great, 0, 0, []api.Bits{power(30), minus(power(30))}, power(1000), of(2, 1, api.NaN, api.NaN)) // the products, with no end, come first
	wantsApplied(t, of(1, 1, api.One), 0, 0, []api.Bits{power(600)}, power(-600), of(1, 1, minus(power(600))))     // w times v would have no end
	wantsApplied(t, of(1, 1, power(-1000)), 0, 0, []api.Bits{power(500)}, power(600), of(1, 1, minus(power(600)))) // tau times v would have no end
	near := api.One + 1                                                                                            // whose square, rounded, is One + 2, and lacks 2^-104
	wantsApplied(t, of(1, 1, near), 0, 0, []api.Bits{near}, api.One, of(1, 1, minus(power(-51))))
	sum := of(3, 1, api.One, power(53), minus(power(53)))
	wantsApplied(t, sum, 0, 0, ones(3), api.One, sum) // in this order the sum is 0
}

// TestP13_2ColumnByColumn: each column is mirrored as if it stood alone, by Dot of the layer below.
func TestP13_2ColumnByColumn(t *testing.T) {
	d := dice(1314)
	for _, pick := range append(d.sorts(), d.out(all())) {
		for range 10 {
			m, v, tau := picked(6, 6, pick), list(1+d.below(5), pick), pick()
			got, e := house.Apply(m, 1, 2, v, tau)
			for c := range m.Cols {
				column, _ := matrix.Part(m, 0, c, m.Rows, 1)
				whole := column
				if c >= 2 {
					whole, _ = house.Apply(column, 1, 0, v, tau)
				}
				part, _ := matrix.Part(got, 0, c, m.Rows, 1)
				wants(t, fmt.Sprintf("column %d of %x", c, m), part, e, whole)
				w, _ := vector.Dot(v, column.Data[1:1+len(v)])
				if t0 := float(tau) * float(w); c >= 2 && part.Data[1] != says(float(column.Data[1])-float64(t0*float(v[0]))) {
					t.Errorf("column %d of %x: %x with Dot %x", c, m, part.Data, w)
				}
			}
		}
	}
}
