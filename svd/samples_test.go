package svd_test

import (
	"fmt"
	"math"
	"math/big"
	"slices"
	"testing"

	"dioptra/api"
	"dioptra/svd"
)

const (
	greatest    = api.Inf - 1
	leastNormal = api.Bits(1 << 52)
	least       = api.Bits(1)

	half  = api.Bits(0x3fe0000000000000)
	two   = api.Bits(0x4000000000000000)
	three = api.Bits(0x4008000000000000)
	four  = api.Bits(0x4010000000000000)
)

// dice gives the same bits in every run.
type dice uint64

func (d *dice) roll() uint64 {
	*d ^= *d << 13
	*d ^= *d >> 7
	*d ^= *d << 17
	return uint64(*d)
}

// below is a number from 0 on, below n.
func (d *dice) below(n int) int {
	return int(d.roll() >> 1 % uint64(n))
}

// power is 2^e, of a normal number.
func power(e int) api.Bits {
	return api.Bits(1023+e) << 52
}

// minus is b with the other sign.
func minus(b api.Bits) api.Bits {
	return b ^ api.NegZero
}

func float(b api.Bits) float64 {
	return math.Float64frombits(uint64(b))
}

// says is the machine's own number by its bits, whatever no number it makes.
func says(f float64) api.Bits {
	if math.IsNaN(f) {
		return api.NaN
	}
	return api.Bits(math.Float64bits(f))
}

func isFinite(f float64) bool {
	return f-f == 0
}

func noughts() []api.Bits {
	return []api.Bits{api.Zero, api.NegZero}
}

// notFinite are numbers without an end, and the edges of what is no number, of both signs.
func notFinite() []api.Bits {
	return []api.Bits{api.Inf, api.NegInf, api.NaN, api.Inf + 1, api.NaN - 1, api.NaN + 1, 1<<63 - 1, api.NegInf + 1, minus(api.NaN), math.MaxUint64}
}

// finites are noughts, and numbers of both signs at which kinds and powers change.
func finites() []api.Bits {
	list := noughts()
	for _, b := range []api.Bits{least, 2, 3, leastNormal - 1, leastNormal, power(-600), power(-100), power(-53), api.One - 1, api.One, api.One + 1, three, power(53), power(100) - 1, power(700), power(1022), power(1023), greatest - 1, greatest} {
		list = append(list, b, minus(b))
	}
	return list
}

// all are numbers of all kinds.
func all() []api.Bits {
	return append(finites(), notFinite()...)
}

// of is a matrix of these numbers.
func of(rows, cols int, data ...api.Bits) api.Matrix {
	return api.Matrix{Rows: rows, Cols: cols, Data: data}
}

// wholes is a matrix of these whole numbers.
func wholes(rows, cols int, data ...int64) api.Matrix {
	m := of(rows, cols)
	for _, number := range data {
		m.Data = append(m.Data, says(float64(number)))
	}
	return m
}

// picked is a matrix of numbers that pick makes.
func picked(rows, cols int, pick func() api.Bits) api.Matrix {
	m := of(rows, cols)
	for range rows * cols {
		m.Data = append(m.Data, pick())
	}
	return m
}

// filled is a matrix of one number.
func filled(rows, cols int, b api.Bits) api.Matrix {
	return of(rows, cols, slices.Repeat([]api.Bits{b}, max(0, rows*cols))...)
}

// withDiagonal is a matrix of one number, with these on its diagonal.
func withDiagonal(rows, cols int, other api.Bits, diagonal ...api.Bits) api.Matrix {
	m := filled(rows, cols, other)
	for j, b := range diagonal {
		*at(m, j, j) = b
	}
	return m
}

// eye has One where row and column are the same, else Zero.
func eye(n int) api.Matrix {
	return withDiagonal(n, n, api.Zero, filled(n, 1, api.One).Data...)
}

// shifted is m with each number times 2^k.
func shifted(m api.Matrix, k int) api.Matrix {
	m = clone(m)
	for i, b := range m.Data {
		m.Data[i] = says(math.Ldexp(float(b), k))
	}
	return m
}

// chosen are m's columns at places.
func chosen(m api.Matrix, places ...int) api.Matrix {
	c := of(m.Rows, len(places))
	for i := range m.Rows {
		for _, k := range places {
			c.Data = append(c.Data, *at(m, i, k))
		}
	}
	return c
}

// clone is a matrix of its own.
func clone(m api.Matrix) api.Matrix {
	m.Data = slices.Clone(m.Data)
	return m
}

// at is the place of row i and column k in m's numbers.
func at(m api.Matrix, i, k int) *api.Bits {
	return &m.Data[i*m.Cols+k]
}

// near are numbers of both signs, of powers from e on below e + span.
func (d *dice) near(e, span int) func() api.Bits {
	return func() api.Bits {
		return power(e+d.below(span)) | api.Bits(d.roll())>>12 | api.Bits(d.roll())&api.NegZero
	}
}

// out are numbers out of a list.
func (d *dice) out(list []api.Bits) func() api.Bits {
	return func() api.Bits { return list[d.below(len(list))] }
}

// small are whole numbers from -n to n.
func (d *dice) small(n int) func() api.Bits {
	return func() api.Bits { return says(float64(d.below(2*n+1) - n)) }
}

// finite are numbers of any bits, what is not finite left out.
func (d *dice) finite() func() api.Bits {
	return func() api.Bits {
		b := api.Bits(d.roll())
		for !isFinite(float(b)) {
			b = api.Bits(d.roll())
		}
		return b
	}
}

// tiny are subnormal numbers of both signs.
func (d *dice) tiny() func() api.Bits {
	return func() api.Bits { return api.Bits(d.roll())>>12 | api.Bits(d.roll())&api.NegZero }
}

// tiniest are whole numbers from -n to n, times the least number above 0.
func (d *dice) tiniest(n int) func() api.Bits {
	return func() api.Bits { return api.Bits(d.below(n+1)) | api.Bits(d.roll())&api.NegZero }
}

// sparse are noughts of both signs, and now and then what pick makes.
func (d *dice) sparse(pick func() api.Bits) func() api.Bits {
	return func() api.Bits {
		if d.below(3) > 0 {
			return noughts()[d.below(2)]
		}
		return pick()
	}
}

// middle are numbers that are neither very great nor very small: of several spans of powers, at both edges, and noughts.
func (d *dice) middle() []func() api.Bits {
	edges := []api.Bits{power(-100), power(-100) + 1, power(100) - 1, power(99), api.One, api.One + 1, api.One - 1, minus(power(-100)), minus(power(100) - 1), minus(api.One), api.Zero, api.NegZero}
	return []func() api.Bits{d.small(1), d.small(9), d.near(0, 1), d.near(-3, 6), d.near(-20, 40), d.near(-100, 200), d.near(-100, 3), d.near(97, 3), d.out(edges), d.out(noughts()), d.sparse(d.near(-20, 40)), d.sparse(d.near(-100, 200)), d.sparse(d.out(edges)), d.sparse(d.small(1))}
}

// sorts are several sorts of finite numbers: of the middle, at both ends of what is finite, and of any bits.
func (d *dice) sorts() []func() api.Bits {
	return append(d.middle(), d.near(-200, 400), d.near(1018, 6), d.near(1022, 1), d.near(506, 10), d.near(-545, 16), d.near(-1022, 4), d.near(-1022, 60), d.tiny(), d.tiniest(3), d.finite(), d.out(finites()), d.sparse(d.near(1019, 4)), d.sparse(d.finite()), d.out([]api.Bits{greatest, minus(greatest), least, minus(least), api.Zero, api.NegZero}))
}

// noughtColumn is m with noughts of both signs in one column.
func (d *dice) noughtColumn(m api.Matrix, k int) api.Matrix {
	m = clone(m)
	for i := range m.Rows {
		*at(m, i, k) = d.out(noughts())()
	}
	return m
}

// multiples is a matrix each of whose columns is its first one times a number; where that is no power of two, rounded.
func (d *dice) multiples(rows, cols int, pick func() api.Bits) api.Matrix {
	m := picked(rows, cols, pick)
	for k := range cols {
		by := d.out([]api.Bits{api.One, minus(api.One), two, half, minus(four), three, 0x3fd5555555555555, api.Zero})()
		for i := range rows {
			*at(m, i, k) = says(float(*at(m, i, 0)) * float(by))
		}
	}
	return m
}

// leaning is a matrix whose columns are nearly its first one: each other number is off by a part of itself of about 2^-e, e at most 50.
func (d *dice) leaning(rows, cols, e int, pick func() api.Bits) api.Matrix {
	m := picked(rows, cols, pick)
	for i := range rows {
		for k := 1; k < cols; k++ {
			by := 1 + math.Ldexp(float64(d.below(9)-4), -e)
			*at(m, i, k) = says(float(*at(m, i, 0)) * by)
		}
	}
	return m
}

// steep is a matrix whose columns are each times a power of two of its own, from 2^-span to 2^span.
func (d *dice) steep(m api.Matrix, span int) api.Matrix {
	m = clone(m)
	for k := range m.Cols {
		e := d.below(2*span+1) - span
		for i := range m.Rows {
			*at(m, i, k) = says(math.Ldexp(float(*at(m, i, k)), e))
		}
	}
	return m
}

// mixed is a matrix whose columns are of unlike sorts of the middle.
func (d *dice) mixed(rows, cols int) api.Matrix {
	sorts := d.middle()
	m := filled(rows, cols, api.Zero)
	for k := range cols {
		pick := sorts[d.below(len(sorts))]
		for i := range rows {
			*at(m, i, k) = pick()
		}
	}
	return m
}

// sizes are all that a matrix may have.
func sizes() [][2]int {
	var list [][2]int
	for rows := range api.MaxDim + 1 {
		for cols := range api.MaxDim + 1 {
			list = append(list, [2]int{rows, cols})
		}
	}
	return list
}

// wrong are matrices of that number that are not right: sizes out of their range, with as many numbers as the product of the sizes says, wrapped round, as far as there can be so many; Data too short or too long.
func wrong(b api.Bits) []api.Matrix {
	beyond := []int{-1, -2, -6, -1 << 32, math.MinInt, math.MinInt / 2, api.MaxDim + 1, api.MaxDim + 2, 36, 1 << 32, 1 << 62, math.MaxInt - 1, math.MaxInt}
	var list []api.Matrix
	for _, n := range beyond {
		for _, k := range append(beyond, 0, 1, 2, api.MaxDim) {
			data := filled(max(0, min(n*k, 100)), 1, b).Data
			list = append(list, of(n, k, data...), of(k, n, data...), of(n, k), of(k, n))
		}
	}
	for _, s := range sizes() {
		right := s[0] * s[1]
		list = append(list, of(s[0], s[1], filled(right+1, 1, b).Data...), of(s[0], s[1], filled(right+6, 1, b).Data...))
		if right > 0 {
			list = append(list, of(s[0], s[1], filled(right, 1, b).Data[:right-1]...), of(s[0], s[1])) // the one that it lacks lies behind its end
		}
	}
	return list
}

func same(a, b api.Matrix) bool {
	return a.Rows == b.Rows && a.Cols == b.Cols && slices.Equal(a.Data, b.Data)
}

// answer is all that Upright tells.
type answer struct {
	w, v  api.Matrix
	sizes []api.Bits
	err   api.Errno
}

func ask(a api.Matrix) answer {
	w, v, sizes, e := svd.Upright(a)
	return answer{w, v, sizes, e}
}

func (a answer) same(b answer) bool {
	return same(a.w, b.w) && same(a.v, b.v) && slices.Equal(a.sizes, b.sizes) && a.err == b.err
}

// clone is an answer of its own.
func (a answer) clone() answer {
	return answer{clone(a.w), clone(a.v), slices.Clone(a.sizes), a.err}
}

// lists are the three lists that an answer has.
func (a answer) lists() [3][]api.Bits {
	return [3][]api.Bits{a.w.Data, a.v.Data, a.sizes}
}

func (a answer) show() string {
	return fmt.Sprintf("%v\nw %s\nv %s\nsizes %x\n", a.err, show(a.w), show(a.v), a.sizes)
}

// show tells a matrix by its bits, a long one by its first numbers alone.
func show(m api.Matrix) string {
	if len(m.Data) > api.MaxDim*api.MaxDim {
		return fmt.Sprintf("%d by %d: %x and more", m.Rows, m.Cols, m.Data[:8])
	}
	return fmt.Sprintf("%d by %d: %x", m.Rows, m.Cols, m.Data)
}

// wants looks after what is told.
func wants(t *testing.T, a, w, v api.Matrix, sizes ...api.Bits) {
	t.Helper()
	want := answer{w, v, sizes, api.OK}
	if got := ask(a); !got.same(want) {
		t.Errorf("Upright of %s: %swanted %s", show(a), got.show(), want.show())
	}
}

// fails looks after the error, and the zero values that are told beside it.
func fails(t *testing.T, a api.Matrix, want api.Errno) {
	t.Helper()
	got := ask(a)
	if !got.same(answer{err: want}) {
		t.Errorf("Upright of %s: %swanted %v alone", show(a), got.show(), want)
	}
}

// units is a finite number's value in steps of 2^-1074, exactly.
func units(b api.Bits) *big.Int {
	v, _ := new(big.Float).SetMantExp(big.NewFloat(float(b)), 1074).Int(nil)
	return v
}

// isMiddle tells whether a number is 0, or from 2^-100 on, below 2^100.
func isMiddle(b api.Bits) bool {
	f := math.Abs(float(b))
	return f == 0 || f >= math.Ldexp(1, -100) && f < math.Ldexp(1, 100)
}

// ofMiddle tells whether all of m's numbers are so.
func ofMiddle(m api.Matrix) bool {
	return !slices.ContainsFunc(m.Data, func(b api.Bits) bool { return !isMiddle(b) })
}

// TestSamplesAreRight guards the other tests.
func TestSamplesAreRight(t *testing.T) {
	for _, b := range notFinite() {
		if isFinite(float(b)) {
			t.Errorf("%x is finite", b)
		}
	}
	d := dice(1900)
	for i, pick := range d.sorts() {
		for range 1000 {
			if b := pick(); !isFinite(float(b)) || i < len(d.middle()) && !isMiddle(b) {
				t.Errorf("sort %d: %v is very great or very small", i, float(b))
			}
		}
	}
	for _, m := range wrong(api.One) {
		if m.Rows >= 0 && m.Rows <= api.MaxDim && m.Cols >= 0 && m.Cols <= api.MaxDim && m.Rows*m.Cols == len(m.Data) {
			t.Errorf("%d rows, %d columns, %d numbers are right", m.Rows, m.Cols, len(m.Data))
		}
	}
	if units(least).Cmp(big.NewInt(1)) != 0 || units(minus(leastNormal-1)).Cmp(big.NewInt(1-1<<52)) != 0 || units(greatest).BitLen() != 1024+1074 {
		t.Errorf("units of the least number: %v", units(least))
	}
	m := wholes(2, 3, 1, 2, 3, 4, 5, 6)
	if !same(chosen(m, 2, 0), wholes(2, 2, 3, 1, 6, 4)) || !same(shifted(m, 1), wholes(2, 3, 2, 4, 6, 8, 10, 12)) {
		t.Errorf("%s: %s, %s", show(m), show(chosen(m, 2, 0)), show(shifted(m, 1)))
	}
	if ofMiddle(of(1, 1, power(100))) || ofMiddle(of(1, 1, minus(power(-101)))) || !ofMiddle(of(1, 2, power(-100), minus(power(99)))) {
		t.Error("what is of the middle")
	}
}
