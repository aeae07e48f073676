package house_test

import (
	"fmt"
	"math"
	"math/big"
	"slices"
	"testing"

	"dioptra/api"
	"dioptra/house"
)

const (
	greatest    = api.Inf - 1
	leastNormal = api.Bits(1 << 52)
	least       = api.Bits(1)

	half  = api.Bits(0x3fe0000000000000)
	two   = api.Bits(0x4000000000000000)
	three = api.Bits(0x4008000000000000)
	four  = api.Bits(0x4010000000000000)
	five  = api.Bits(0x4014000000000000)
)

// dice gives the same bits in every run.
type dice uint64

func (d *dice) roll() uint64 {
	*d ^= *d << 13
	*d ^= *d >> 7
	*d ^= *d << 17
	return uint64(*d)
}

// below is a number from 0 on, below n.
func (d *dice) below(n int) int {
	return int(d.roll() >> 1 % uint64(n))
}

// power is 2^e, of a normal number.
func power(e int) api.Bits {
	return api.Bits(1023+e) << 52
}

// minus is b with the other sign.
func minus(b api.Bits) api.Bits {
	return b ^ api.NegZero
}

func float(b api.Bits) float64 {
	return math.Float64frombits(uint64(b))
}

// says is the machine's own number by its bits, whatever no number it makes.
func says(f float64) api.Bits {
	if math.IsNaN(f) {
		return api.NaN
	}
	return api.Bits(math.Float64bits(f))
}

func isFinite(f float64) bool {
	return f-f == 0
}

func noughts() []api.Bits {
	return []api.Bits{api.Zero, api.NegZero}
}

// notFinite are numbers without an end, and the edges of what is no number, of both signs.
func notFinite() []api.Bits {
	return []api.Bits{api.Inf, api.NegInf, api.NaN, api.Inf + 1, api.NaN - 1, api.NaN + 1, 1<<63 - 1, api.NegInf + 1, minus(api.NaN), math.MaxUint64}
}

// numbers are finite ones of both signs, but no noughts, at which kinds and powers change.
func numbers() []api.Bits {
	var list []api.Bits
	for _, b := range []api.Bits{least, 2, 3, leastNormal - 1, leastNormal, leastNormal + 1, power(-600), power(-200), power(-53), api.One - 1, api.One, api.One + 1, three, power(53), power(200) - 1, power(700), power(1022), power(1023), greatest - 1, greatest} {
		list = append(list, b, minus(b))
	}
	return list
}

func finites() []api.Bits {
	return append(noughts(), numbers()...)
}

// all are numbers of all kinds.
func all() []api.Bits {
	return append(finites(), notFinite()...)
}

// list is n numbers that pick makes.
func list(n int, pick func() api.Bits) []api.Bits {
	var l []api.Bits
	for range n {
		l = append(l, pick())
	}
	return l
}

// of is a matrix of these numbers.
func of(rows, cols int, data ...api.Bits) api.Matrix {
	return api.Matrix{Rows: rows, Cols: cols, Data: data}
}

// picked is a matrix of numbers that pick makes.
func picked(rows, cols int, pick func() api.Bits) api.Matrix {
	return of(rows, cols, list(rows*cols, pick)...)
}

// ones are n times One.
func ones(n int) []api.Bits {
	return slices.Repeat([]api.Bits{api.One}, n)
}

// near are numbers of both signs, of powers from e on below e + span.
func (d *dice) near(e, span int) func() api.Bits {
	return func() api.Bits {
		return power(e+d.below(span)) | api.Bits(d.roll())>>12 | api.Bits(d.roll())&api.NegZero
	}
}

// out are numbers out of a list.
func (d *dice) out(list []api.Bits) func() api.Bits {
	return func() api.Bits { return list[d.below(len(list))] }
}

// any are numbers of any bits.
func (d *dice) any() func() api.Bits {
	return func() api.Bits { return api.Bits(d.roll()) }
}

// finite are numbers of any bits, what is not finite left out.
func (d *dice) finite() func() api.Bits {
	return func() api.Bits {
		b := api.Bits(d.roll())
		for !isFinite(float(b)) {
			b = api.Bits(d.roll())
		}
		return b
	}
}

// tiny are subnormal numbers of both signs.
func (d *dice) tiny() func() api.Bits {
	return func() api.Bits { return api.Bits(d.roll())>>12 | api.Bits(d.roll())&api.NegZero }
}

// sparse are noughts of both signs, and now and then what pick makes.
func (d *dice) sparse(pick func() api.Bits) func() api.Bits {
	return func() api.Bits {
		if d.below(3) > 0 {
			return noughts()[d.below(2)]
		}
		return pick()
	}
}

// middle are numbers that are neither very great nor very small: of several spans of powers, at both edges, and noughts.
func (d *dice) middle() []func() api.Bits {
	edges := []api.Bits{power(-200), power(-200) + 1, power(200) - 1, power(199), api.One, api.One + 1, api.One - 1, minus(power(-200)), minus(power(200) - 1), minus(api.One), api.Zero, api.NegZero}
	return []func() api.Bits{d.near(0, 1), d.near(-3, 6), d.near(-30, 60), d.near(-200, 400), d.near(-200, 3), d.near(197, 3), d.out(edges), d.sparse(d.near(-30, 60)), d.sparse(d.near(-200, 400))}
}

// sorts are several sorts of finite numbers: of the middle, at both ends of what is finite, and of any bits.
func (d *dice) sorts() []func() api.Bits {
	return append(d.middle(), d.near(1018, 6), d.near(1022, 1), d.near(506, 10), d.near(-545, 16), d.near(-1022, 4), d.tiny(), d.finite(), d.out(finites()), d.out(noughts()))
}

// sizes are all that a matrix may have.
func sizes() [][2]int {
	var list [][2]int
	for rows := range api.MaxDim + 1 {
		for cols := range api.MaxDim + 1 {
			list = append(list, [2]int{rows, cols})
		}
	}
	return list
}

// beyond are numbers that no matrix has of rows or columns.
func beyond() []int {
	return []int{-1, -2, -6, -1 << 32, math.MinInt, math.MinInt + 1, math.MinInt / 2, api.MaxDim + 1, api.MaxDim + 2, 36, 1 << 32, 1 << 62, math.MaxInt - 5, math.MaxInt - 1, math.MaxInt}
}

// wrong are matrices that are not right: sizes out of their range, with as many numbers as the product of the sizes says, wrapped round, as far as there can be so many; Data too short or too long.
func wrong() []api.Matrix {
	var list []api.Matrix
	for _, n := range beyond() {
		for _, k := range append(beyond(), 0, 1, 2, api.MaxDim) {
			data := ones(max(0, min(n*k, 100)))
			list = append(list, of(n, k, data...), of(k, n, data...), of(n, k), of(k, n))
		}
	}
	for _, s := range sizes() {
		right := s[0] * s[1]
		list = append(list, of(s[0], s[1], ones(right+1)...), of(s[0], s[1], ones(right+6)...))
		if right > 0 {
			list = append(list, of(s[0], s[1], ones(right)[:right-1]...), of(s[0], s[1])) // the one that it lacks lies behind its end
		}
	}
	return list
}

func same(a, b api.Matrix) bool {
	return a.Rows == b.Rows && a.Cols == b.Cols && slices.Equal(a.Data, b.Data)
}

// show tells a list, a long one by its first numbers alone.
func show(list []api.Bits) string {
	if len(list) > 8 {
		return fmt.Sprintf("%x and %d more", list[:8], len(list)-8)
	}
	return fmt.Sprintf("%x", list)
}

// wantsMirror looks after a mirror that is told.
func wantsMirror(t *testing.T, x, v []api.Bits, tau, beta api.Bits) {
	t.Helper()
	gotV, gotTau, gotBeta, e := house.Make(x)
	if !slices.Equal(gotV, v) || gotTau != tau || gotBeta != beta || e != api.OK {
		t.Errorf("Make(%s): %s, %x, %x, %v; wanted %s, %x, %x", show(x), show(gotV), gotTau, gotBeta, e, show(v), tau, beta)
	}
}

// wantsNoMirror looks after the zero values that are told beside an error.
func wantsNoMirror(t *testing.T, x []api.Bits, want api.Errno) {
	t.Helper()
	if v, tau, beta, e := house.Make(x); len(v) != 0 || tau != 0 || beta != 0 || e != want {
		t.Errorf("Make(%s): %s, %x, %x, %v; wanted %v", show(x), show(v), tau, beta, e, want)
	}
}

// wants looks after a matrix that is told.
func wants(t *testing.T, what string, m api.Matrix, err api.Errno, want api.Matrix) {
	t.Helper()
	if !same(m, want) || err != api.OK {
		t.Errorf("%s: %x, %v; wanted %x", what, m, err, want)
	}
}

// wantsNone looks after the zero value that is told beside an error.
func wantsNone(t *testing.T, what string, m api.Matrix, err, want api.Errno) {
	t.Helper()
	if m.Rows != 0 || m.Cols != 0 || len(m.Data) != 0 || err != want {
		t.Errorf("%s: %x, %v; wanted %v", what, m, err, want)
	}
}

// units is a finite number's value in steps of 2^-1074, exactly.
func units(b api.Bits) *big.Int {
	v, _ := new(big.Float).SetMantExp(big.NewFloat(float(b)), 1074).Int(nil)
	return v
}

// TestSamplesAreRight guards the other tests.
func TestSamplesAreRight(t *testing.T) {
	for _, b := range notFinite() {
		if isFinite(float(b)) {
			t.Errorf("%x is finite", b)
		}
	}
	for _, b := range finites() {
		if !isFinite(float(b)) {
			t.Errorf("%x is not finite", b)
		}
	}
	d := dice(1300)
	for i, pick := range d.sorts() {
		for range 1000 {
			if f := math.Abs(float(pick())); !isFinite(f) || i < len(d.middle()) && f != 0 && (f < math.Ldexp(1, -200) || f >= math.Ldexp(1, 200)) {
				t.Errorf("sort %d: %v is very great or very small", i, f)
			}
		}
	}
	for _, m := range wrong() {
		if m.Rows >= 0 && m.Rows <= api.MaxDim && m.Cols >= 0 && m.Cols <= api.MaxDim && m.Rows*m.Cols == len(m.Data) {
			t.Errorf("%d rows, %d columns, %d numbers are right", m.Rows, m.Cols, len(m.Data))
		}
	}
	if units(least).Cmp(big.NewInt(1)) != 0 || units(minus(leastNormal-1)).Cmp(big.NewInt(1-1<<52)) != 0 || units(greatest).BitLen() != 1024+1074 {
		t.Errorf("units of the least number: %v", units(least))
	}
}
