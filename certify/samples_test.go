package certify_test

import (
	"encoding/binary"
	"fmt"
	"math"
	"math/big"
	"slices"
	"testing"

	"dioptra/api"
	"dioptra/certify"
)

const (
	greatest    = api.Inf - 1
	leastNormal = api.Bits(1 << 52)
	least       = api.Bits(1)

	two   = api.Bits(0x4000000000000000)
	three = api.Bits(0x4008000000000000)
	four  = api.Bits(0x4010000000000000)
)

// dice gives the same bits in every run.
type dice uint64

func (d *dice) roll() uint64 {
	*d ^= *d << 13
	*d ^= *d >> 7
	*d ^= *d << 17
	return uint64(*d)
}

// below is a number from 0 on, below n.
func (d *dice) below(n int) int {
	return int(d.roll() >> 1 % uint64(n))
}

// power is 2^e, of a normal number.
func power(e int) api.Bits {
	return api.Bits(1023+e) << 52
}

// minus is b with the other sign.
func minus(b api.Bits) api.Bits {
	return b ^ api.NegZero
}

func float(b api.Bits) float64 {
	return math.Float64frombits(uint64(b))
}

// notFinite are numbers without an end, and the edges of what is no number, of both signs.
func notFinite() []api.Bits {
	return []api.Bits{api.Inf, api.NegInf, api.NaN, api.Inf + 1, api.NaN - 1, api.NaN + 1, 1<<63 - 1, api.NegInf + 1, minus(api.NaN), math.MaxUint64}
}

// finites are noughts, and numbers of both signs at which kinds and powers change.
func finites() []api.Bits {
	list := []api.Bits{api.Zero, api.NegZero}
	for _, b := range []api.Bits{least, 3, leastNormal - 1, leastNormal, power(-600), power(-53), api.One - 1, api.One, api.One + 1, three, power(53), power(700), power(1023), greatest} {
		list = append(list, b, minus(b))
	}
	return list
}

// of is a matrix of these numbers.
func of(rows, cols int, data ...api.Bits) api.Matrix {
	return api.Matrix{Rows: rows, Cols: cols, Data: data}
}

// picked is a matrix of numbers that pick makes.
func picked(rows, cols int, pick func() api.Bits) api.Matrix {
	m := of(rows, cols)
	for range rows * cols {
		m.Data = append(m.Data, pick())
	}
	return m
}

// filled is a matrix of one number.
func filled(rows, cols int, b api.Bits) api.Matrix {
	return picked(rows, cols, func() api.Bits { return b })
}

// near are numbers of both signs, of powers from e on below e + span.
func (d *dice) near(e, span int) func() api.Bits {
	return func() api.Bits {
		return power(e+d.below(span)) | api.Bits(d.roll())>>12 | api.Bits(d.roll())&api.NegZero
	}
}

// out are numbers out of a list.
func (d *dice) out(list ...api.Bits) func() api.Bits {
	return func() api.Bits { return list[d.below(len(list))] }
}

// small are numbers from -n to n that are whole.
func (d *dice) small(n int) func() api.Bits {
	return func() api.Bits { return api.Bits(math.Float64bits(float64(d.below(2*n+1) - n))) }
}

// sorts are several sorts of finite numbers.
func (d *dice) sorts() []func() api.Bits {
	return []func() api.Bits{
		d.small(1), d.small(9), d.near(0, 1), d.near(-3, 6), d.near(-300, 600),
		d.near(1020, 4), d.near(-1022, 4), d.near(-1022, 2046), // whose exact sums are wide, or lie far out
		d.out(finites()...), d.out(api.Zero, api.NegZero),
		d.out(greatest, least), d.out(greatest, minus(greatest), least, minus(least), api.Zero),
	}
}

// sizes are all that a matrix may have.
func sizes() [][2]int {
	var list [][2]int
	for rows := range api.MaxDim + 1 {
		for cols := range api.MaxDim + 1 {
			list = append(list, [2]int{rows, cols})
		}
	}
	return list
}

// triples are sizes of two matrices that can be multiplied: all of them.
func triples() [][3]int {
	var list [][3]int
	for _, s := range sizes() {
		for n := range api.MaxDim + 1 {
			list = append(list, [3]int{s[0], s[1], n})
		}
	}
	return list
}

// wrong are matrices of that number that are not right: sizes out of their range, Data too short or too long.
func wrong(b api.Bits) []api.Matrix {
	var list []api.Matrix
	for _, n := range []int{-1, -6, math.MinInt, api.MaxDim + 1, 36, 1 << 32, 1 << 62, math.MaxInt} {
		for _, k := range []int{-1, 0, 1, 2, api.MaxDim, api.MaxDim + 1, 1 << 32, math.MaxInt} {
			numbers := max(0, min(n*k, 100))
			list = append(list, of(n, k, filled(numbers, 1, b).Data...), of(k, n, filled(numbers, 1, b).Data...))
		}
	}
	for _, s := range sizes() {
		right := s[0] * s[1]
		list = append(list, of(s[0], s[1], filled(right+1, 1, b).Data...))
		if right > 0 {
			list = append(list, of(s[0], s[1], filled(right, 1, b).Data[:right-1]...), of(s[0], s[1])) // the one that it lacks lies behind its end
		}
	}
	return list
}

// turned has m's rows as columns.
func turned(m api.Matrix) api.Matrix {
	t := of(m.Cols, m.Rows)
	for k := range m.Cols {
		for i := range m.Rows {
			t.Data = append(t.Data, m.Data[i*m.Cols+k])
		}
	}
	return t
}

// eye has One where row and column are the same, else Zero.
func eye(n int) api.Matrix {
	m := filled(n, n, api.Zero)
	for i := range n {
		m.Data[i*n+i] = api.One
	}
	return m
}

// value is m times 2^e, whatever m and e are.
type value struct {
	m *big.Int
	e int
}

// valueOf is d's value as chapter 2 says it.
func valueOf(d api.Dyadic) value {
	var lowFirst []byte
	for _, limb := range d.M.Limbs {
		lowFirst = binary.LittleEndian.AppendUint32(lowFirst, limb)
	}
	slices.Reverse(lowFirst)
	m := new(big.Int).SetBytes(lowFirst)
	if d.M.Neg {
		m.Neg(m)
	}
	return value{m, d.E}
}

// at is what stands before the power of two, if v is written with an e that is no more than its own.
func (v value) at(e int) *big.Int {
	return new(big.Int).Lsh(v.m, uint(v.e-e))
}

// plus is v and w together.
func (v value) plus(w value) value {
	e := min(v.e, w.e)
	return value{new(big.Int).Add(v.at(e), w.at(e)), e}
}

// cmp is -1, 0 or 1, as v is less than w, as much or more.
func (v value) cmp(w value) int {
	e := min(v.e, w.e)
	return v.at(e).Cmp(w.at(e))
}

// wholeOf is the right whole number of v, made without the packages that are tested.
func wholeOf(v *big.Int) api.Whole {
	limbs := make([]uint32, (v.BitLen()+31)/32)
	highFirst := v.FillBytes(make([]byte, 4*len(limbs)))
	for i := range limbs {
		limbs[len(limbs)-1-i] = binary.BigEndian.Uint32(highFirst[4*i:])
	}
	return api.Whole{Neg: v.Sign() < 0, Limbs: limbs}
}

// right is the right number of v, and whether there is one.
func (v value) right() (api.Dyadic, bool) {
	if v.m.Sign() == 0 {
		return api.Dyadic{}, true
	}
	zeros := v.m.TrailingZeroBits()
	odd, e := new(big.Int).Quo(v.m, new(big.Int).Lsh(big.NewInt(1), zeros)), v.e+int(zeros)
	if odd.BitLen() > 32*api.MaxLimbs || e < -api.MaxExp || e > api.MaxExp {
		return api.Dyadic{}, false
	}
	return api.Dyadic{M: wholeOf(odd), E: e}, true
}

// number is m times 2^e, of an odd m, or 0.
func number(m int64, e int) api.Dyadic {
	return api.Dyadic{M: wholeOf(big.NewInt(m)), E: e}
}

func same(a, b api.Dyadic) bool {
	return a.E == b.E && a.M.Neg == b.M.Neg && slices.Equal(a.M.Limbs, b.M.Limbs)
}

// show tells a number in few words, however long it is.
func show(a api.Dyadic) string {
	limbs := a.M.Limbs
	if len(limbs) > 4 {
		limbs = append(slices.Clone(limbs[:2]), limbs[len(limbs)-2:]...)
	}
	return fmt.Sprintf("{%v %d limbs %x, E %d}", a.M.Neg, len(a.M.Limbs), limbs, a.E)
}

// wants looks after a number that is told.
func wants(t *testing.T, what string, got api.Dyadic, e api.Errno, want api.Dyadic) {
	t.Helper()
	if e != api.OK || !same(got, want) {
		t.Errorf("%s: %s, %v; wanted %s", what, show(got), e, show(want))
	}
}

// wantsNone looks after the zero value that is told beside an error.
func wantsNone(t *testing.T, what string, got api.Dyadic, e, want api.Errno) {
	t.Helper()
	if e != want || !same(got, api.Dyadic{}) {
		t.Errorf("%s: %s, %v; wanted %v", what, show(got), e, want)
	}
}

// wantsRank looks after a rank.
func wantsRank(t *testing.T, m api.Matrix, want int) {
	t.Helper()
	if n, e := certify.Rank(m); n != want || e != api.OK {
		t.Errorf("%x: rank %d, %v; wanted %d", m, n, e, want)
	}
}

// TestSamplesAreRight guards the other tests: what they take for finite, for no finite number, for right and for the widest must be so.
func TestSamplesAreRight(t *testing.T) {
	for _, b := range notFinite() {
		if f := float(b); !math.IsNaN(f) && !math.IsInf(f, 0) {
			t.Errorf("%x is finite", b)
		}
	}
	d := dice(1100)
	for i, pick := range d.sorts() {
		for range 1000 {
			if f := float(pick()); math.IsNaN(f) || math.IsInf(f, 0) {
				t.Errorf("sort %d: %v is not finite", i, f)
			}
		}
	}
	for _, m := range wrong(api.One) {
		if m.Rows >= 0 && m.Rows <= api.MaxDim && m.Cols >= 0 && m.Cols <= api.MaxDim && m.Rows*m.Cols == len(m.Data) {
			t.Errorf("%d rows, %d columns, %d numbers are right", m.Rows, m.Cols, len(m.Data))
		}
	}
	for _, a := range dyadics() {
		if b, ok := valueOf(a).right(); !ok || !same(a, b) || a.M.Neg {
			t.Errorf("%s is not right, or below 0", show(a))
		}
	}
	if f := float(three); f != 3 || float(greatest) != math.MaxFloat64 || float(least) != math.SmallestNonzeroFloat64 {
		t.Errorf("three is %v", f)
	}
}
