package rq_test

import (
	"fmt"
	"math"
	"math/big"
	"slices"
	"testing"

	"dioptra/api"
	"dioptra/rq"
)

const (
	greatest    = api.Inf - 1
	leastNormal = api.Bits(1 << 52)
	least       = api.Bits(1)

	half  = api.Bits(0x3fe0000000000000)
	two   = api.Bits(0x4000000000000000)
	three = api.Bits(0x4008000000000000)
	four  = api.Bits(0x4010000000000000)
	five  = api.Bits(0x4014000000000000)
)

// dice gives the same bits in every run.
type dice uint64

func (d *dice) roll() uint64 {
	*d ^= *d << 13
	*d ^= *d >> 7
	*d ^= *d << 17
	return uint64(*d)
}

// below is a number from 0 on, below n.
func (d *dice) below(n int) int {
	return int(d.roll() >> 1 % uint64(n))
}

// power is 2^e, of a normal number.
func power(e int) api.Bits {
	return api.Bits(1023+e) << 52
}

// minus is b with the other sign.
func minus(b api.Bits) api.Bits {
	return b ^ api.NegZero
}

// plus is b without its sign.
func plus(b api.Bits) api.Bits {
	return b &^ api.NegZero
}

func float(b api.Bits) float64 {
	return math.Float64frombits(uint64(b))
}

// says is the machine's own number by its bits, whatever no number it makes.
func says(f float64) api.Bits {
	if math.IsNaN(f) {
		return api.NaN
	}
	return api.Bits(math.Float64bits(f))
}

func isFinite(f float64) bool {
	return f-f == 0
}

func noughts() []api.Bits {
	return []api.Bits{api.Zero, api.NegZero}
}

// notFinite are numbers without an end, and the edges of what is no number, of both signs.
func notFinite() []api.Bits {
	return []api.Bits{api.Inf, api.NegInf, api.NaN, api.Inf + 1, api.NaN - 1, api.NaN + 1, 1<<63 - 1, api.NegInf + 1, minus(api.NaN), math.MaxUint64}
}

// finites are noughts, and numbers of both signs at which kinds and powers change.
func finites() []api.Bits {
	list := noughts()
	for _, b := range []api.Bits{least, 2, 3, leastNormal - 1, leastNormal, power(-600), power(-200), power(-53), api.One - 1, api.One, api.One + 1, three, power(53), power(200) - 1, power(700), power(1022), power(1023), greatest - 1, greatest} {
		list = append(list, b, minus(b))
	}
	return list
}

// all are numbers of all kinds.
func all() []api.Bits {
	return append(finites(), notFinite()...)
}

// of is a matrix of these numbers.
func of(rows, cols int, data ...api.Bits) api.Matrix {
	return api.Matrix{Rows: rows, Cols: cols, Data: data}
}

// picked is a matrix of numbers that pick makes.
func picked(rows, cols int, pick func() api.Bits) api.Matrix {
	m := of(rows, cols)
	for range rows * cols {
		m.Data = append(m.Data, pick())
	}
	return m
}

// counted is a matrix whose numbers are all unlike: 1, 2, 3 and so on, by their bits.
func counted(rows, cols int) api.Matrix {
	next := api.Zero
	return picked(rows, cols, func() api.Bits {
		next++
		return next
	})
}

// filled is a matrix of one number.
func filled(rows, cols int, b api.Bits) api.Matrix {
	return of(rows, cols, slices.Repeat([]api.Bits{b}, max(0, rows*cols))...)
}

// eye has One where row and column are the same, else Zero.
func eye(n int) api.Matrix {
	m := filled(n, n, api.Zero)
	for i := range n {
		m.Data[i*n+i] = api.One
	}
	return m
}

// clone is a matrix of its own.
func clone(m api.Matrix) api.Matrix {
	m.Data = slices.Clone(m.Data)
	return m
}

// each is a matrix of what number says of each number of m.
func each(m api.Matrix, number func(b api.Bits) api.Bits) api.Matrix {
	r := clone(m)
	for i, b := range m.Data {
		r.Data[i] = number(b)
	}
	return r
}

// at is the place of row i and column k in m's numbers.
func at(m api.Matrix, i, k int) *api.Bits {
	return &m.Data[i*m.Cols+k]
}

// turned has m's rows as columns.
func turned(m api.Matrix) api.Matrix {
	t := of(m.Cols, m.Rows)
	for k := range m.Cols {
		for i := range m.Rows {
			t.Data = append(t.Data, *at(m, i, k))
		}
	}
	return t
}

// upsideDown has m's rows, the last one first.
func upsideDown(m api.Matrix) api.Matrix {
	u := of(m.Rows, m.Cols)
	for i := m.Rows - 1; i >= 0; i-- {
		u.Data = append(u.Data, m.Data[i*m.Cols:(i+1)*m.Cols]...)
	}
	return u
}

// rightToLeft has m's columns, the last one first.
func rightToLeft(m api.Matrix) api.Matrix {
	r := clone(m)
	for i := range m.Rows {
		slices.Reverse(r.Data[i*m.Cols : (i+1)*m.Cols])
	}
	return r
}

// near are numbers of both signs, of powers from e on below e + span.
func (d *dice) near(e, span int) func() api.Bits {
	return func() api.Bits {
		return power(e+d.below(span)) | api.Bits(d.roll())>>12 | api.Bits(d.roll())&api.NegZero
	}
}

// out are numbers out of a list.
func (d *dice) out(list []api.Bits) func() api.Bits {
	return func() api.Bits { return list[d.below(len(list))] }
}

// small are whole numbers from -n to n.
func (d *dice) small(n int) func() api.Bits {
	return func() api.Bits { return says(float64(d.below(2*n+1) - n)) }
}

// any are numbers of any bits.
func (d *dice) any() func() api.Bits {
	return func() api.Bits { return api.Bits(d.roll()) }
}

// finite are numbers of any bits, what is not finite left out.
func (d *dice) finite() func() api.Bits {
	return func() api.Bits {
		b := api.Bits(d.roll())
		for !isFinite(float(b)) {
			b = api.Bits(d.roll())
		}
		return b
	}
}

// tiny are subnormal numbers of both signs.
func (d *dice) tiny() func() api.Bits {
	return func() api.Bits { return api.Bits(d.roll())>>12 | api.Bits(d.roll())&api.NegZero }
}

// sparse are noughts of both signs, and now and then what pick makes.
func (d *dice) sparse(pick func() api.Bits) func() api.Bits {
	return func() api.Bits {
		if d.below(3) > 0 {
			return noughts()[d.below(2)]
		}
		return pick()
	}
}

// middle are numbers that are neither very great nor very small: of several spans of powers, at both edges, and noughts.
func (d *dice) middle() []func() api.Bits {
	edges := []api.Bits{power(-200), power(-200) + 1, power(200) - 1, power(199), api.One, api.One + 1, api.One - 1, minus(power(-200)), minus(power(200) - 1), minus(api.One), api.Zero, api.NegZero}
	return []func() api.Bits{d.small(1), d.small(9), d.near(0, 1), d.near(-3, 6), d.near(-30, 60), d.near(-200, 400), d.near(-200, 3), d.near(197, 3), d.out(edges), d.out(noughts()), d.sparse(d.near(-30, 60)), d.sparse(d.near(-200, 400))}
}

// sorts are several sorts of finite numbers: of the middle, at both ends of what is finite, and of any bits.
func (d *dice) sorts() []func() api.Bits {
	return append(d.middle(), d.near(1018, 6), d.near(1022, 1), d.near(1021, 3), d.near(506, 10), d.near(-545, 16), d.near(-1022, 4), d.tiny(), d.finite(), d.out(finites()), d.sparse(d.near(1019, 4)), d.sparse(d.finite()), d.out([]api.Bits{greatest, minus(greatest), least, minus(least), api.Zero, api.NegZero}))
}

// multiples is a matrix each of whose rows is its first one times a number; where that is no power of two, rounded.
func (d *dice) multiples(rows, cols int, pick func() api.Bits) api.Matrix {
	m := picked(rows, cols, pick)
	for i := 1; i < rows; i++ {
		by := d.out([]api.Bits{api.One, minus(api.One), two, half, minus(four), three, 0x3fd5555555555555, api.Zero})()
		for k := range cols {
			*at(m, i, k) = says(float(*at(m, 0, k)) * float(by))
		}
	}
	return m
}

// aboveDiagonal tells whether l has just Zero at that place.
func aboveDiagonal(_ api.Matrix, i, k int) bool {
	return k > i
}

// aheadOfCorner tells whether r has just Zero at that place of m.
func aheadOfCorner(m api.Matrix, i, k int) bool {
	return k < m.Cols-m.Rows+i
}

// behindCounter tells whether that place of m lies behind the diagonal that begins in the first column of the last row: with noughts there Rq has nothing to mirror.
func behindCounter(m api.Matrix, i, k int) bool {
	return k > m.Rows-1-i
}

// bare is m with noughts of both signs at the places that are told.
func (d *dice) bare(m api.Matrix, told func(m api.Matrix, i, k int) bool) api.Matrix {
	m = clone(m)
	for i := range m.Rows {
		for k := range m.Cols {
			if told(m, i, k) {
				*at(m, i, k) = d.out(noughts())()
			}
		}
	}
	return m
}

// noughtRow is m with noughts of both signs in row i.
func (d *dice) noughtRow(m api.Matrix, i int) api.Matrix {
	return d.bare(m, func(_ api.Matrix, row, _ int) bool { return row == i })
}

// sizes are all that a matrix may have.
func sizes() [][2]int {
	var list [][2]int
	for rows := range api.MaxDim + 1 {
		for cols := range api.MaxDim + 1 {
			list = append(list, [2]int{rows, cols})
		}
	}
	return list
}

// wrong are matrices of that number that are not right: sizes out of their range, with as many numbers as the product of the sizes says, wrapped round, as far as there can be so many; Data too short or too long.
func wrong(b api.Bits) []api.Matrix {
	beyond := []int{-1, -2, -6, -1 << 32, math.MinInt, math.MinInt / 2, api.MaxDim + 1, api.MaxDim + 2, 36, 1 << 32, 1 << 62, math.MaxInt - 1, math.MaxInt}
	var list []api.Matrix
	for _, n := range beyond {
		for _, k := range append(beyond, 0, 1, 2, api.MaxDim) {
			data := filled(max(0, min(n*k, 100)), 1, b).Data
			list = append(list, of(n, k, data...), of(k, n, data...), of(n, k), of(k, n))
		}
	}
	for _, s := range sizes() {
		right := s[0] * s[1]
		list = append(list, of(s[0], s[1], filled(right+1, 1, b).Data...), of(s[0], s[1], filled(right+6, 1, b).Data...))
		if right > 0 {
			list = append(list, of(s[0], s[1], filled(right, 1, b).Data[:right-1]...), of(s[0], s[1])) // the one that it lacks lies behind its end
		}
	}
	return list
}

func same(a, b api.Matrix) bool {
	return a.Rows == b.Rows && a.Cols == b.Cols && slices.Equal(a.Data, b.Data)
}

// empty tells whether m is the zero value.
func empty(m api.Matrix) bool {
	return m.Rows == 0 && m.Cols == 0 && len(m.Data) == 0
}

// show tells a matrix by its bits, a long one by its first numbers alone.
func show(m api.Matrix) string {
	if len(m.Data) > api.MaxDim*api.MaxDim {
		return fmt.Sprintf("%d by %d: %x and more", m.Rows, m.Cols, m.Data[:8])
	}
	return fmt.Sprintf("%d by %d: %x", m.Rows, m.Cols, m.Data)
}

// way is one of the two calls that factor, with what it is to tell.
type way struct {
	name  string
	ask   func(a api.Matrix) (api.Matrix, api.Matrix, api.Errno)
	gos   func(a api.Matrix) factored
	zeros func(m api.Matrix, i, k int) bool // where its first factor has just Zero
	fits  func(a api.Matrix) bool           // which sizes it takes
}

func lower() way {
	return way{"Lq", rq.Lq, gosLq, aboveDiagonal, func(api.Matrix) bool { return true }}
}

func upper() way {
	return way{"Rq", rq.Rq, gosRq, aheadOfCorner, func(a api.Matrix) bool { return a.Rows <= a.Cols }}
}

func ways() []way {
	return []way{lower(), upper()}
}

// wants looks after factors that are told.
func (w way) wants(t *testing.T, a, first, q api.Matrix) {
	t.Helper()
	if f, p, e := w.ask(a); !same(f, first) || !same(p, q) || e != api.OK {
		t.Errorf("%s of %s:\n%s\n%s\n%v; wanted\n%s\n%s", w.name, show(a), show(f), show(p), e, show(first), show(q))
	}
}

// wantsNone looks after an error, and the zero values that are told beside it.
func (w way) wantsNone(t *testing.T, a api.Matrix, want api.Errno) {
	t.Helper()
	if f, p, e := w.ask(a); !empty(f) || !empty(p) || e != want {
		t.Errorf("%s of %s: %s, %s, %v; wanted %v", w.name, show(a), show(f), show(p), e, want)
	}
}

// units is a finite number's value in steps of 2^-1074, exactly.
func units(b api.Bits) *big.Int {
	v, _ := new(big.Float).SetMantExp(big.NewFloat(float(b)), 1074).Int(nil)
	return v
}

// TestSamplesAreRight guards the other tests.
func TestSamplesAreRight(t *testing.T) {
	for _, b := range notFinite() {
		if isFinite(float(b)) {
			t.Errorf("%x is finite", b)
		}
	}
	d := dice(1500)
	for i, pick := range d.sorts() {
		for range 1000 {
			if f := math.Abs(float(pick())); !isFinite(f) || i < len(d.middle()) && f != 0 && (f < math.Ldexp(1, -200) || f >= math.Ldexp(1, 200)) {
				t.Errorf("sort %d: %v is very great or very small", i, f)
			}
		}
	}
	for _, m := range wrong(api.One) {
		if m.Rows >= 0 && m.Rows <= api.MaxDim && m.Cols >= 0 && m.Cols <= api.MaxDim && m.Rows*m.Cols == len(m.Data) {
			t.Errorf("%d rows, %d columns, %d numbers are right", m.Rows, m.Cols, len(m.Data))
		}
	}
	if units(least).Cmp(big.NewInt(1)) != 0 || units(minus(leastNormal-1)).Cmp(big.NewInt(1-1<<52)) != 0 || units(greatest).BitLen() != 1024+1074 {
		t.Errorf("units of the least number: %v", units(least))
	}
	m := of(2, 3, 1, 2, 3, 4, 5, 6)
	for _, c := range []struct{ got, want api.Matrix }{
		{turned(m), of(3, 2, 1, 4, 2, 5, 3, 6)},
		{upsideDown(m), of(2, 3, 4, 5, 6, 1, 2, 3)},
		{rightToLeft(m), of(2, 3, 3, 2, 1, 6, 5, 4)},
		{each(d.bare(m, aboveDiagonal), plus), of(2, 3, 1, 0, 0, 4, 5, 0)},
		{each(d.bare(m, aheadOfCorner), plus), of(2, 3, 0, 2, 3, 0, 0, 6)},
		{each(d.bare(m, behindCounter), plus), of(2, 3, 1, 2, 0, 4, 0, 0)},
		{each(d.noughtRow(m, 1), plus), of(2, 3, 1, 2, 3, 0, 0, 0)},
	} {
		if !same(c.got, c.want) {
			t.Errorf("%s; wanted %s", show(c.got), show(c.want))
		}
	}
}
