package dyadic_test

import (
	"encoding/binary"
	"fmt"
	"math"
	"math/big"
	"slices"
	"testing"

	"dioptra/api"
	"dioptra/dyadic"
)

const (
	maxBits = 32 * api.MaxLimbs
	most    = api.MaxExp
)

// value is m times 2^e, whatever m and e are.
type value struct {
	m *big.Int
	e int
}

// valueOf is d's value as the word says it.
func valueOf(d api.Dyadic) value {
	var lowFirst []byte
	for _, limb := range d.M.Limbs {
		lowFirst = binary.LittleEndian.AppendUint32(lowFirst, limb)
	}
	slices.Reverse(lowFirst)
	m := new(big.Int).SetBytes(lowFirst)
	if d.M.Neg {
		m.Neg(m)
	}
	return value{m, d.E}
}

// at is what stands before the power of two, if v is written with an e that is no more than its own.
func (v value) at(e int) *big.Int {
	return new(big.Int).Lsh(v.m, uint(v.e-e))
}

// wholeOf is the right whole number of v, made without the packages that are tested.
func wholeOf(v *big.Int) api.Whole {
	limbs := make([]uint32, (v.BitLen()+31)/32)
	highFirst := v.FillBytes(make([]byte, 4*len(limbs)))
	for i := range limbs {
		limbs[len(limbs)-1-i] = binary.BigEndian.Uint32(highFirst[4*i:])
	}
	return api.Whole{Neg: v.Sign() < 0, Limbs: limbs}
}

// right is the right number of v: ErrRange, if there is none.
func (v value) right() (api.Dyadic, api.Errno) {
	if v.m.Sign() == 0 {
		return api.Dyadic{}, api.OK
	}
	zeros := v.m.TrailingZeroBits()
	odd, e := new(big.Int).Quo(v.m, powerOfTwo(zeros, 0)), v.e+int(zeros)
	if odd.BitLen() > maxBits || e < -most || e > most {
		return api.Dyadic{}, api.ErrRange
	}
	return api.Dyadic{M: wholeOf(odd), E: e}, api.OK
}

// powerOfTwo is 2^n plus more.
func powerOfTwo(n uint, more int64) *big.Int {
	v := new(big.Int).Lsh(big.NewInt(1), n)
	return v.Add(v, big.NewInt(more))
}

// number is m times 2^e, of an odd m, or 0.
func number(m int64, e int) api.Dyadic {
	return api.Dyadic{M: wholeOf(big.NewInt(m)), E: e}
}

func same(a, b api.Dyadic) bool {
	return a.E == b.E && a.M.Neg == b.M.Neg && slices.Equal(a.M.Limbs, b.M.Limbs)
}

// show tells a number in few words, however long it is.
func show(a api.Dyadic) string {
	limbs := a.M.Limbs
	if len(limbs) > 4 {
		limbs = append(slices.Clone(limbs[:2]), limbs[len(limbs)-2:]...)
	}
	return fmt.Sprintf("{%v %d limbs %x, E %d}", a.M.Neg, len(a.M.Limbs), limbs, a.E)
}

// wants asks for an answer and its error: beside an error the answer that is wanted is the zero value.
func wants(t *testing.T, what string, got api.Dyadic, e api.Errno, want api.Dyadic, f api.Errno) {
	t.Helper()
	if e != f || !same(got, want) {
		t.Errorf("%s: %s, %v; wanted %s, %v", what, show(got), e, show(want), f)
	}
}

// dice gives the same bits in every run.
type dice uint64

func (d *dice) roll() uint64 {
	*d ^= *d << 13
	*d ^= *d >> 7
	*d ^= *d << 17
	return uint64(*d)
}

// odd gives an odd whole number of n limbs; some are 0 or full, since carries run through those.
func (d *dice) odd(n int) api.Whole {
	list := make([]uint32, n)
	for i := range list {
		switch d.roll() % 4 {
		case 0:
			list[i] = 0
		case 1:
			list[i] = math.MaxUint32
		default:
			list[i] = uint32(d.roll())
		}
	}
	list[n-1] |= 1 << (d.roll() % 32)
	list[0] |= 1
	return api.Whole{Neg: d.roll()%2 == 0, Limbs: list}
}

// odds are odd whole numbers of all sizes.
func odds() []api.Whole {
	var list []api.Whole
	for _, v := range []*big.Int{big.NewInt(1), big.NewInt(3), powerOfTwo(32, -1), powerOfTwo(32, 1), powerOfTwo(8191, 1), powerOfTwo(maxBits-1, 1), powerOfTwo(maxBits, -1)} {
		list = append(list, wholeOf(v), wholeOf(new(big.Int).Neg(v)))
	}
	d := dice(20261116)
	for _, n := range []int{1, 2, 3, 20, 255, 256, 257, 511, 512} {
		list = append(list, d.odd(n))
	}
	return list
}

// exponents are those that a right number may have, its edges among them.
func exponents() []int {
	return []int{-most, -most + 1, -most / 2, -33, -1, 0, 1, 32, most / 2, most - 1, most}
}

// samples are right numbers of all sizes and exponents.
func samples() []api.Dyadic {
	list := []api.Dyadic{{}, {M: api.Whole{Limbs: []uint32{}}}}
	for _, m := range odds() {
		for _, e := range exponents() {
			list = append(list, api.Dyadic{M: m, E: e})
		}
	}
	return list
}

// thirds are numbers so small and near that three of them can be added or multiplied.
func thirds() []api.Dyadic {
	list := []api.Dyadic{number(0, 0), number(1, 0), number(-1, 0), number(1, 1), number(-3, -2), number(math.MinInt64+1, 40)}
	d := dice(5)
	for i, n := range []int{1, 1, 2, 3, 30, 90, 100} {
		list = append(list, api.Dyadic{M: d.odd(n), E: 700*i - 2000})
	}
	return list
}

// wrongWholes are whole numbers that are not right.
func wrongWholes() []api.Whole {
	d := dice(7)
	return []api.Whole{
		{Neg: true},
		{Limbs: []uint32{0}},
		{Neg: true, Limbs: []uint32{0, 0}},
		{Limbs: []uint32{5, 0}},
		{Limbs: make([]uint32, api.MaxLimbs+1)},
		d.odd(api.MaxLimbs + 1),
	}
}

// wrongs are numbers that are not right.
func wrongs() []api.Dyadic {
	var list []api.Dyadic
	for _, m := range wrongWholes() {
		list = append(list, api.Dyadic{M: m}, api.Dyadic{M: m, E: most + 1})
	}
	for _, m := range []*big.Int{big.NewInt(2), big.NewInt(-6), powerOfTwo(32, 0), powerOfTwo(maxBits-1, 0), powerOfTwo(maxBits, -2)} {
		list = append(list, api.Dyadic{M: wholeOf(m)}, api.Dyadic{M: wholeOf(m), E: -most})
	}
	for _, e := range []int{most + 1, -most - 1, 2*most + 1, math.MaxInt, math.MinInt, math.MaxInt32 + 1} {
		list = append(list, number(1, e), number(-3, e), number(0, e))
	}
	for _, e := range []int{1, -1, most, -most} {
		list = append(list, number(0, e))
	}
	return list
}

// TestSamplesAreRight guards the other tests: what they take for right must be so.
func TestSamplesAreRight(t *testing.T) {
	for _, a := range append(samples(), thirds()...) {
		if b, e := valueOf(a).right(); e != api.OK || !same(a, b) || dyadic.Check(a) != api.OK {
			t.Errorf("%s is not right", show(a))
		}
	}
}
