package matrix_test

import (
	"math"
	"slices"
	"testing"

	"dioptra/api"
	"dioptra/matrix"
)

const (
	greatest    = api.Inf - 1
	leastNormal = api.Bits(1 << 52)
	least       = api.Bits(1)

	two   = api.Bits(0x4000000000000000)
	three = api.Bits(0x4008000000000000)
	four  = api.Bits(0x4010000000000000)
	five  = api.Bits(0x4014000000000000)
)

// dice gives the same bits in every run.
type dice uint64

func (d *dice) roll() uint64 {
	*d ^= *d << 13
	*d ^= *d >> 7
	*d ^= *d << 17
	return uint64(*d)
}

// below is a number from 0 on, below n.
func (d *dice) below(n int) int {
	return int(d.roll() >> 1 % uint64(n))
}

// power is 2^e, of a normal number.
func power(e int) api.Bits {
	return api.Bits(1023+e) << 52
}

// minus is b with the other sign.
func minus(b api.Bits) api.Bits {
	return b ^ api.NegZero
}

func float(b api.Bits) float64 {
	return math.Float64frombits(uint64(b))
}

// says is the machine's own number by its bits, whatever no number it makes.
func says(f float64) api.Bits {
	if math.IsNaN(f) {
		return api.NaN
	}
	return api.Bits(math.Float64bits(f))
}

// noNumbers are the edges of what is no number, of both signs.
func noNumbers() []api.Bits {
	return []api.Bits{api.NaN, api.Inf + 1, api.NaN - 1, api.NaN + 1, 1<<63 - 1, api.NegInf + 1, minus(api.NaN), minus(api.NaN) - 1, math.MaxUint64}
}

// finites are noughts, and numbers of both signs at which kinds and powers change.
func finites() []api.Bits {
	list := []api.Bits{api.Zero, api.NegZero}
	for _, b := range []api.Bits{least, 3, leastNormal - 1, leastNormal, power(-600), power(-53), api.One - 1, api.One, api.One + 1, three, power(53), power(700), power(1023), greatest} {
		list = append(list, b, minus(b))
	}
	return list
}

// all are numbers of all kinds.
func all() []api.Bits {
	return slices.Concat(finites(), []api.Bits{api.Inf, api.NegInf}, noNumbers())
}

// of is a matrix of these numbers.
func of(rows, cols int, data ...api.Bits) api.Matrix {
	return api.Matrix{Rows: rows, Cols: cols, Data: data}
}

// picked is a matrix of numbers that pick makes.
func picked(rows, cols int, pick func() api.Bits) api.Matrix {
	m := of(rows, cols)
	for range rows * cols {
		m.Data = append(m.Data, pick())
	}
	return m
}

// counted is a matrix whose numbers are all unlike: 1, 2, 3 and so on, by their bits.
func counted(rows, cols int) api.Matrix {
	next := api.Zero
	return picked(rows, cols, func() api.Bits {
		next++
		return next
	})
}

// near are numbers of both signs, of powers from e on below e + span.
func (d *dice) near(e, span int) func() api.Bits {
	return func() api.Bits {
		return power(e+d.below(span)) | api.Bits(d.roll())>>12 | api.Bits(d.roll())&api.NegZero
	}
}

// out are numbers out of a list.
func (d *dice) out(list []api.Bits) func() api.Bits {
	return func() api.Bits { return list[d.below(len(list))] }
}

// any are numbers of any bits.
func (d *dice) any() func() api.Bits {
	return func() api.Bits { return api.Bits(d.roll()) }
}

// sorts are several sorts of numbers.
func (d *dice) sorts() []func() api.Bits {
	return []func() api.Bits{
		d.near(0, 1), d.near(-3, 6), d.near(-30, 60), d.near(-300, 600), // whose sums lose few digits or many
		d.near(508, 8), d.near(1020, 4), d.near(-545, 16), d.near(-1022, 4), d.near(-1022, 2046), // whose products are too great or too small
		d.out(finites()), d.out(all()), d.any(),
		d.out([]api.Bits{api.Zero, api.NegZero}), d.out([]api.Bits{api.One, api.Inf, api.NegInf, api.NegZero}),
	}
}

// sizes are all that a matrix may have.
func sizes() [][2]int {
	var list [][2]int
	for rows := range api.MaxDim + 1 {
		for cols := range api.MaxDim + 1 {
			list = append(list, [2]int{rows, cols})
		}
	}
	return list
}

// beyond are numbers that no matrix has of rows or columns: just so, and far so, and such that sums and products of them wrap round.
func beyond() []int {
	return []int{-1, -2, -6, -7, -1 << 31, -1 << 32, math.MinInt, math.MinInt + 1, math.MinInt / 2, api.MaxDim + 1, api.MaxDim + 2, 12, 36, 1 << 31, 1 << 32, 1<<32 + 1, 1 << 62, math.MaxInt / 2, math.MaxInt - 1, math.MaxInt}
}

// ones are n times One.
func ones(n int) []api.Bits {
	return slices.Repeat([]api.Bits{api.One}, n)
}

// wrongSizes are matrices with a size out of its range, and as many numbers as the product of the sizes says, wrapped round, as far as there can be so many.
func wrongSizes() []api.Matrix {
	var list []api.Matrix
	for _, n := range beyond() {
		for _, k := range append(beyond(), 0, 1, 2, 3, api.MaxDim) {
			numbers := max(0, min(n*k, 100))
			list = append(list, of(n, k, ones(numbers)...), of(k, n, ones(numbers)...), of(n, k), of(k, n))
		}
	}
	return list
}

// wrongData are matrices with too few numbers or too many.
func wrongData() []api.Matrix {
	var list []api.Matrix
	for _, s := range sizes() {
		right := s[0] * s[1]
		for _, n := range []int{0, right - 1, right + 1, right + s[1], 2 * right, 2*right + 1, 1000} {
			if n >= 0 && n != right {
				list = append(list, of(s[0], s[1], ones(n)...))
			}
		}
		if right > 0 {
			list = append(list, of(s[0], s[1], ones(right)[:right-1]...)) // the one that it lacks lies behind its end
		}
	}
	return list
}

// wrong are matrices that are not right.
func wrong() []api.Matrix {
	return append(wrongSizes(), wrongData()...)
}

func same(a, b api.Matrix) bool {
	return a.Rows == b.Rows && a.Cols == b.Cols && slices.Equal(a.Data, b.Data)
}

// wants looks after a matrix that is told.
func wants(t *testing.T, what string, m api.Matrix, err api.Errno, want api.Matrix) {
	t.Helper()
	if !same(m, want) || err != api.OK {
		t.Errorf("%s: %x, %v; wanted %x", what, m, err, want)
	}
}

// wantsNone looks after the zero value that is told beside an error.
func wantsNone(t *testing.T, what string, m api.Matrix, err, want api.Errno) {
	t.Helper()
	if m.Rows != 0 || m.Cols != 0 || len(m.Data) != 0 || err != want {
		t.Errorf("%s: %x, %v; wanted %v", what, m, err, want)
	}
}

// must is a matrix of a call that can't fail.
func must(m api.Matrix, err api.Errno) api.Matrix {
	if err != api.OK {
		panic(err.Error())
	}
	return m
}

// TestSamplesAreRight guards the other tests.
func TestSamplesAreRight(t *testing.T) {
	d := dice(100)
	for _, s := range sizes() {
		for i, pick := range d.sorts() {
			if m := picked(s[0], s[1], pick); len(m.Data) != s[0]*s[1] || matrix.Check(m) != api.OK {
				t.Errorf("sort %d: %d numbers in %d rows and %d columns", i, len(m.Data), s[0], s[1])
			}
		}
	}
	for _, b := range noNumbers() {
		if !math.IsNaN(float(b)) {
			t.Errorf("%x is a number", b)
		}
	}
	pick := d.near(-3, 6)
	for range 1000 {
		if f := math.Abs(float(pick())); f < 0.125 || f >= 8 {
			t.Errorf("%v does not lie from 2^-3 on below 2^3", f)
		}
	}
	var fitting int // numbers whose product, wrapped round, is as many as there are
	for _, m := range wrongSizes() {
		if m.Rows*m.Cols == len(m.Data) {
			fitting++
		}
	}
	if fitting < 100 {
		t.Errorf("of wrong sizes but %d have as many numbers as the product says", fitting)
	}
}
