package pivot_test

import (
	"fmt"
	"math"
	"math/big"
	"slices"
	"testing"

	"dioptra/api"
	"dioptra/pivot"
)

const (
	greatest    = api.Inf - 1
	leastNormal = api.Bits(1 << 52)
	least       = api.Bits(1)

	half  = api.Bits(0x3fe0000000000000)
	two   = api.Bits(0x4000000000000000)
	three = api.Bits(0x4008000000000000)
	four  = api.Bits(0x4010000000000000)
	five  = api.Bits(0x4014000000000000)
)

// dice gives the same bits in every run.
type dice uint64

func (d *dice) roll() uint64 {
	*d ^= *d << 13
	*d ^= *d >> 7
	*d ^= *d << 17
	return uint64(*d)
}

// below is a number from 0 on, below n.
func (d *dice) below(n int) int {
	return int(d.roll() >> 1 % uint64(n))
}

// power is 2^e, of a normal number.
func power(e int) api.Bits {
	return api.Bits(1023+e) << 52
}

// minus is b with the other sign.
func minus(b api.Bits) api.Bits {
	return b ^ api.NegZero
}

func float(b api.Bits) float64 {
	return math.Float64frombits(uint64(b))
}

// says is the machine's own number by its bits, whatever no number it makes.
func says(f float64) api.Bits {
	if math.IsNaN(f) {
		return api.NaN
	}
	return api.Bits(math.Float64bits(f))
}

func isFinite(f float64) bool {
	return f-f == 0
}

func noughts() []api.Bits {
	return []api.Bits{api.Zero, api.NegZero}
}

// notFinite are numbers without an end, and the edges of what is no number, of both signs.
func notFinite() []api.Bits {
	return []api.Bits{api.Inf, api.NegInf, api.NaN, api.Inf + 1, api.NaN - 1, api.NaN + 1, 1<<63 - 1, api.NegInf + 1, minus(api.NaN), math.MaxUint64}
}

// finites are noughts, and numbers of both signs at which kinds and powers change.
func finites() []api.Bits {
	list := noughts()
	for _, b := range []api.Bits{least, 2, 3, leastNormal - 1, leastNormal, power(-600), power(-200), power(-53), api.One - 1, api.One, api.One + 1, three, power(53), power(200) - 1, power(700), power(1022), power(1023), greatest - 1, greatest} {
		list = append(list, b, minus(b))
	}
	return list
}

// all are numbers of all kinds.
func all() []api.Bits {
	return append(finites(), notFinite()...)
}

// of is a matrix of these numbers.
func of(rows, cols int, data ...api.Bits) api.Matrix {
	return api.Matrix{Rows: rows, Cols: cols, Data: data}
}

// picked is a matrix of numbers that pick makes.
func picked(rows, cols int, pick func() api.Bits) api.Matrix {
	m := of(rows, cols)
	for range rows * cols {
		m.Data = append(m.Data, pick())
	}
	return m
}

// filled is a matrix of one number.
func filled(rows, cols int, b api.Bits) api.Matrix {
	return of(rows, cols, slices.Repeat([]api.Bits{b}, max(0, rows*cols))...)
}

// eye has One where row and column are the same, else Zero.
func eye(n int) api.Matrix {
	m := filled(n, n, api.Zero)
	for i := range n {
		m.Data[i*n+i] = api.One
	}
	return m
}

// clone is a matrix of its own.
func clone(m api.Matrix) api.Matrix {
	m.Data = slices.Clone(m.Data)
	return m
}

// each is a matrix of what number says of each number of m.
func each(m api.Matrix, number func(b api.Bits) api.Bits) api.Matrix {
	r := clone(m)
	for i, b := range m.Data {
		r.Data[i] = number(b)
	}
	return r
}

// at is the place of row i and column k in m's numbers.
func at(m api.Matrix, i, k int) *api.Bits {
	return &m.Data[i*m.Cols+k]
}

// turned has m's rows as columns.
func turned(m api.Matrix) api.Matrix {
	t := of(m.Cols, m.Rows)
	for k := range m.Cols {
		for i := range m.Rows {
			t.Data = append(t.Data, *at(m, i, k))
		}
	}
	return t
}

// columnsOf is m's columns at places.
func columnsOf(m api.Matrix, places ...int) api.Matrix {
	c := of(m.Rows, len(places))
	for i := range m.Rows {
		for _, k := range places {
			c.Data = append(c.Data, *at(m, i, k))
		}
	}
	return c
}

// inOrder is the places from 0 to n - 1.
func inOrder(n int) []int {
	var places []int
	for k := range n {
		places = append(places, k)
	}
	return places
}

// shuffled is the places from 0 to n - 1, in any order.
func (d *dice) shuffled(n int) []int {
	places := inOrder(n)
	for i := range places {
		k := d.below(i + 1)
		places[i], places[k] = places[k], places[i]
	}
	return places
}

// near are numbers of both signs, of powers from e on below e + span.
func (d *dice) near(e, span int) func() api.Bits {
	return func() api.Bits {
		return power(e+d.below(span)) | api.Bits(d.roll())>>12 | api.Bits(d.roll())&api.NegZero
	}
}

// out are numbers out of a list.
func (d *dice) out(list []api.Bits) func() api.Bits {
	return func() api.Bits { return list[d.below(len(list))] }
}

// small are whole numbers from -n to n.
func (d *dice) small(n int) func() api.Bits {
	return func() api.Bits { return says(float64(d.below(2*n+1) - n)) }
}

// any are numbers of any bits.
func (d *dice) any() func() api.Bits {
	return func() api.Bits { return api.Bits(d.roll()) }
}

// finite are numbers of any bits, what is not finite left out.
func (d *dice) finite() func() api.Bits {
	return func() api.Bits {
		b := api.Bits(d.roll())
		for !isFinite(float(b)) {
			b = api.Bits(d.roll())
		}
		return b
	}
}

// tiny are subnormal numbers of both signs.
func (d *dice) tiny() func() api.Bits {
	return func() api.Bits { return api.Bits(d.roll())>>12 | api.Bits(d.roll())&api.NegZero }
}

// sparse are noughts of both signs, and now and then what pick makes.
func (d *dice) sparse(pick func() api.Bits) func() api.Bits {
	return func() api.Bits {
		if d.below(3) > 0 {
			return noughts()[d.below(2)]
		}
		return pick()
	}
}

// middle are numbers that are neither very great nor very small: of several spans of powers, at both edges, and noughts.
func (d *dice) middle() []func() api.Bits {
	edges := []api.Bits{power(-200), power(-200) + 1, power(200) - 1, power(199), api.One, api.One + 1, api.One - 1, minus(power(-200)), minus(power(200) - 1), minus(api.One), api.Zero, api.NegZero}
	return []func() api.Bits{d.small(1), d.small(9), d.near(0, 1), d.near(-3, 6), d.near(-30, 60), d.near(-200, 400), d.near(-200, 3), d.near(197, 3), d.out(edges), d.out(noughts()), d.sparse(d.near(-30, 60)), d.sparse(d.near(-200, 400))}
}

// sorts are several sorts of finite numbers: of the middle, at both ends of what is finite, and of any bits.
func (d *dice) sorts() []func() api.Bits {
	return append(d.middle(), d.near(1018, 6), d.near(1022, 1), d.near(1021, 3), d.near(506, 10), d.near(-545, 16), d.near(-1022, 4), d.tiny(), d.finite(), d.out(finites()), d.sparse(d.near(1019, 4)), d.sparse(d.finite()), d.out([]api.Bits{greatest, minus(greatest), least, minus(least), api.Zero, api.NegZero}))
}

// multiples is a matrix each of whose columns is its first one times a number; where that is no power of two, rounded.
func (d *dice) multiples(rows, cols int, pick func() api.Bits) api.Matrix {
	m := picked(rows, cols, pick)
	for k := range cols {
		by := d.out([]api.Bits{api.One, minus(api.One), two, half, minus(four), three, 0x3fd5555555555555, api.Zero})()
		for i := range rows {
			*at(m, i, k) = says(float(*at(m, i, 0)) * float(by))
		}
	}
	return m
}

// upper is m with noughts of both signs below its diagonal.
func (d *dice) upper(m api.Matrix) api.Matrix {
	m = clone(m)
	for i := range m.Rows {
		for k := range min(i, m.Cols) {
			*at(m, i, k) = d.out(noughts())()
		}
	}
	return m
}

// noughtColumn is m with noughts of both signs in one column.
func (d *dice) noughtColumn(m api.Matrix, k int) api.Matrix {
	m = clone(m)
	for i := range m.Rows {
		*at(m, i, k) = d.out(noughts())()
	}
	return m
}

// brim is a matrix of columns that are nearly the same, each with a norm near the greatest number, and a small number ahead: what is mirrored there is finite, or just not.
func (d *dice) brim(rows, cols int) api.Matrix {
	m := filled(rows, cols, api.Zero)
	one := picked(rows, 1, d.near(-1, 1)).Data
	norm := 0.0
	for _, b := range one[1:] {
		norm += float(b) * float(b)
	}
	for k := range cols {
		for i := 1; i < rows; i++ {
			*at(m, i, k) = says(float(greatest)*(float(one[i])/math.Sqrt(norm))) + api.Bits(d.below(9)) - 4
		}
		*at(m, 0, k) = says(math.Ldexp(float64(d.below(17)-8), 967+d.below(4)))
	}
	if d.below(2) == 0 {
		*at(m, 0, 0) = api.Zero
	}
	return m
}

// signs is m with the signs of each of its columns turned, or not.
func (d *dice) signs(m api.Matrix) api.Matrix {
	m = clone(m)
	for k := range m.Cols {
		turn := d.out(noughts())()
		for i := range m.Rows {
			*at(m, i, k) ^= turn
		}
	}
	return m
}

// sizes are all that a matrix may have.
func sizes() [][2]int {
	var list [][2]int
	for rows := range api.MaxDim + 1 {
		for cols := range api.MaxDim + 1 {
			list = append(list, [2]int{rows, cols})
		}
	}
	return list
}

// wrong are matrices of that number that are not right: sizes out of their range, with as many numbers as the product of the sizes says, wrapped round, as far as there can be so many; Data too short or too long.
func wrong(b api.Bits) []api.Matrix {
	beyond := []int{-1, -2, -6, -1 << 32, math.MinInt, math.MinInt / 2, api.MaxDim + 1, api.MaxDim + 2, 36, 1 << 32, 1 << 62, math.MaxInt - 1, math.MaxInt}
	var list []api.Matrix
	for _, n := range beyond {
		for _, k := range append(beyond, 0, 1, 2, api.MaxDim) {
			data := filled(max(0, min(n*k, 100)), 1, b).Data
			list = append(list, of(n, k, data...), of(k, n, data...), of(n, k), of(k, n))
		}
	}
	for _, s := range sizes() {
		right := s[0] * s[1]
		list = append(list, of(s[0], s[1], filled(right+1, 1, b).Data...), of(s[0], s[1], filled(right+6, 1, b).Data...))
		if right > 0 {
			list = append(list, of(s[0], s[1], filled(right, 1, b).Data[:right-1]...), of(s[0], s[1])) // the one that it lacks lies behind its end
		}
	}
	return list
}

func same(a, b api.Matrix) bool {
	return a.Rows == b.Rows && a.Cols == b.Cols && slices.Equal(a.Data, b.Data)
}

// empty tells whether m is the zero value.
func empty(m api.Matrix) bool {
	return m.Rows == 0 && m.Cols == 0 && len(m.Data) == 0
}

// show tells a matrix by its bits, a long one by its first numbers alone.
func show(m api.Matrix) string {
	if len(m.Data) > api.MaxDim*api.MaxDim {
		return fmt.Sprintf("%d by %d: %x and more", m.Rows, m.Cols, m.Data[:8])
	}
	return fmt.Sprintf("%d by %d: %x", m.Rows, m.Cols, m.Data)
}

// factored is what Factor is to tell.
type factored struct {
	q, r   api.Matrix
	places []int
}

func (f factored) String() string {
	return fmt.Sprintf("q %s\nr %s\nplaces %v", show(f.q), show(f.r), f.places)
}

func (f factored) same(g factored) bool {
	return same(f.q, g.q) && same(f.r, g.r) && slices.Equal(f.places, g.places)
}

// factor is Factor, what it tells together.
func factor(a api.Matrix) (factored, api.Errno) {
	q, r, places, e := pivot.Factor(a)
	return factored{q, r, places}, e
}

// wantsFactors looks after factors that are told.
func wantsFactors(t *testing.T, a api.Matrix, want factored) {
	t.Helper()
	if got, e := factor(a); !got.same(want) || e != api.OK {
		t.Errorf("Factor of %s:\n%v\n%v; wanted\n%v", show(a), got, e, want)
	}
}

// wantsNone looks after Factor's error, and the zero values that are told beside it.
func wantsNone(t *testing.T, a api.Matrix, want api.Errno) {
	t.Helper()
	if got, e := factor(a); !empty(got.q) || !empty(got.r) || len(got.places) != 0 || e != want {
		t.Errorf("Factor of %s:\n%v\n%v; wanted %v", show(a), got, e, want)
	}
}

// wantsTold looks after the rank told.
func wantsTold(t *testing.T, r api.Matrix, want int) {
	t.Helper()
	if got, e := pivot.Told(r); got != want || e != api.OK {
		t.Errorf("Told of %s: %d, %v; wanted %d", show(r), got, e, want)
	}
}

// wantsNoRank looks after Told's error, and the 0 that is told beside it.
func wantsNoRank(t *testing.T, r api.Matrix, want api.Errno) {
	t.Helper()
	if got, e := pivot.Told(r); got != 0 || e != want {
		t.Errorf("Told of %s: %d, %v; wanted %v", show(r), got, e, want)
	}
}

// wantsColumns looks after columns that are told.
func wantsColumns(t *testing.T, a api.Matrix, places []int, want api.Matrix) {
	t.Helper()
	if got, e := pivot.Columns(a, places); !same(got, want) || e != api.OK {
		t.Errorf("Columns(%s, %v): %s, %v; wanted %s", show(a), places, show(got), e, show(want))
	}
}

// wantsNoColumns looks after Columns' error, and the zero value that is told beside it.
func wantsNoColumns(t *testing.T, a api.Matrix, places []int, want api.Errno) {
	t.Helper()
	if got, e := pivot.Columns(a, places); !empty(got) || e != want {
		t.Errorf("Columns(%s, %v): %s, %v; wanted %v", show(a), places, show(got), e, want)
	}
}

// units is a finite number's value in steps of 2^-1074, exactly.
func units(b api.Bits) *big.Int {
	v, _ := new(big.Float).SetMantExp(big.NewFloat(float(b)), 1074).Int(nil)
	return v
}

// TestSamplesAreRight guards the other tests.
func TestSamplesAreRight(t *testing.T) {
	for _, b := range notFinite() {
		if isFinite(float(b)) {
			t.Errorf("%x is finite", b)
		}
	}
	d := dice(1600)
	for i, pick := range d.sorts() {
		for range 1000 {
			if f := math.Abs(float(pick())); !isFinite(f) || i < len(d.middle()) && f != 0 && (f < math.Ldexp(1, -200) || f >= math.Ldexp(1, 200)) {
				t.Errorf("sort %d: %v is very great or very small", i, f)
			}
		}
	}
	for _, m := range wrong(api.One) {
		if m.Rows >= 0 && m.Rows <= api.MaxDim && m.Cols >= 0 && m.Cols <= api.MaxDim && m.Rows*m.Cols == len(m.Data) {
			t.Errorf("%d rows, %d columns, %d numbers are right", m.Rows, m.Cols, len(m.Data))
		}
	}
	if units(least).Cmp(big.NewInt(1)) != 0 || units(minus(leastNormal-1)).Cmp(big.NewInt(1-1<<52)) != 0 || units(greatest).BitLen() != 1024+1074 {
		t.Errorf("units of the least number: %v", units(least))
	}
	if m := of(2, 3, api.One, two, three, four, five, half); !same(turned(m), of(3, 2, api.One, four, two, five, three, half)) || !same(columnsOf(m, 2, 0, 2), of(2, 3, three, api.One, three, half, four, half)) {
		t.Errorf("%s, turned: %s, columns: %s", show(m), show(turned(m)), show(columnsOf(m, 2, 0, 2)))
	}
}
