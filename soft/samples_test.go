package soft_test

import (
	"encoding/binary"
	"fmt"
	"math"
	"math/big"
	"slices"
	"testing"

	"dioptra/api"
	"dioptra/dyadic"
)

const (
	maxBits = 32 * api.MaxLimbs
	most    = api.MaxExp

	greatest    = api.Inf - 1
	leastNormal = api.Bits(1 << 52)
)

// inUnits is d's value counted in units of 2^-MaxExp: every right number, and every finite one of binary64, is a whole number of these.
func inUnits(d api.Dyadic) *big.Int {
	var lowFirst []byte
	for _, limb := range d.M.Limbs {
		lowFirst = binary.LittleEndian.AppendUint32(lowFirst, limb)
	}
	slices.Reverse(lowFirst)
	m := new(big.Int).SetBytes(lowFirst)
	if d.M.Neg {
		m.Neg(m)
	}
	return m.Lsh(m, uint(d.E+most))
}

// unitsOf is a finite number's value in these units, by the machine's own numbers; that of Inf stands for 2^1024.
func unitsOf(b api.Bits) *big.Int {
	f := math.Float64frombits(uint64(b))
	if math.IsInf(f, 0) {
		v := powerOfTwo(most+1024, 0)
		return v.Mul(v, big.NewInt(int64(math.Copysign(1, f))))
	}
	v, _ := new(big.Float).SetMantExp(big.NewFloat(f), most).Int(nil)
	return v
}

// wholeOf is the right whole number of v, made without the packages that are tested.
func wholeOf(v *big.Int) api.Whole {
	limbs := make([]uint32, (v.BitLen()+31)/32)
	highFirst := v.FillBytes(make([]byte, 4*len(limbs)))
	for i := range limbs {
		limbs[len(limbs)-1-i] = binary.BigEndian.Uint32(highFirst[4*i:])
	}
	return api.Whole{Neg: v.Sign() < 0, Limbs: limbs}
}

// rightOf is the right number of m times 2^e; ok tells whether there is one.
func rightOf(m *big.Int, e int) (d api.Dyadic, ok bool) {
	if m.Sign() == 0 {
		return api.Dyadic{}, true
	}
	zeros := m.TrailingZeroBits()
	odd := new(big.Int).Quo(m, powerOfTwo(zeros, 0))
	e += int(zeros)
	return api.Dyadic{M: wholeOf(odd), E: e}, odd.BitLen() <= maxBits && -most <= e && e <= most
}

// number is m times 2^e, of an odd m, or 0.
func number(m int64, e int) api.Dyadic {
	return api.Dyadic{M: wholeOf(big.NewInt(m)), E: e}
}

// powerOfTwo is 2^n plus more.
func powerOfTwo(n uint, more int64) *big.Int {
	v := new(big.Int).Lsh(big.NewInt(1), n)
	return v.Add(v, big.NewInt(more))
}

func same(a, b api.Dyadic) bool {
	return a.E == b.E && a.M.Neg == b.M.Neg && slices.Equal(a.M.Limbs, b.M.Limbs)
}

// show tells a number in few words, however long it is.
func show(a api.Dyadic) string {
	limbs := a.M.Limbs
	if len(limbs) > 4 {
		limbs = append(slices.Clone(limbs[:2]), limbs[len(limbs)-2:]...)
	}
	return fmt.Sprintf("{%v %d limbs %x, E %d}", a.M.Neg, len(a.M.Limbs), limbs, a.E)
}

// dice gives the same bits in every run.
type dice uint64

func (d *dice) roll() uint64 {
	*d ^= *d << 13
	*d ^= *d >> 7
	*d ^= *d << 17
	return uint64(*d)
}

// odd gives an odd whole number of n limbs; some are 0 or full, since carries run through those.
func (d *dice) odd(n int) api.Whole {
	list := make([]uint32, n)
	for i := range list {
		switch d.roll() % 4 {
		case 0:
			list[i] = 0
		case 1:
			list[i] = math.MaxUint32
		default:
			list[i] = uint32(d.roll())
		}
	}
	list[n-1] |= 1 << (d.roll() % 32)
	list[0] |= 1
	return api.Whole{Neg: d.roll()%2 == 0, Limbs: list}
}

// positives are finite numbers with the sign 0, the edges of the kinds among them.
func positives() []api.Bits {
	list := []api.Bits{api.Zero, 1, 2, 3, 4, 5, greatest, greatest - 1, greatest - 2, api.One, api.One - 1, api.One + 1}
	for _, power := range []api.Bits{1, 2, 3, 53, 54, 1022, 1074, 1075, 1076, 2000, 2045, 2046} {
		start := power << 52
		list = append(list, start-2, start-1, start, start+1, start+2, start+1<<51, start+1<<51-1)
	}
	d := dice(20261117)
	for range 60 {
		list = append(list, api.Bits(d.roll())%api.Inf, api.Bits(d.roll())%leastNormal)
	}
	return list
}

// finites are finite numbers of both signs.
func finites() []api.Bits {
	var list []api.Bits
	for _, b := range positives() {
		list = append(list, b, b|api.NegZero)
	}
	return list
}

// noNumbers are the edges of what is no number, of both signs.
func noNumbers() []api.Bits {
	return []api.Bits{api.NaN, api.Inf + 1, api.Inf + 2, api.NaN - 1, api.NaN + 1, 0x7ff8dead0000beef, 1<<63 - 1, api.NegInf + 1, api.NaN | api.NegZero, math.MaxUint64}
}

// all are numbers of all kinds.
func all() []api.Bits {
	return append(append(finites(), api.Inf, api.NegInf), noNumbers()...)
}

// beside are numbers that lie on a finite number b and halfway to the next one, and near to these on both sides, with M of all lengths.
func beside(b api.Bits) []api.Dyadic {
	here, next := unitsOf(b), unitsOf(b+1)
	half := new(big.Int).Add(here, next)
	half.Rsh(half, 1)
	list := []api.Dyadic{}
	for _, place := range []*big.Int{here, half, next} {
		for _, off := range []uint{0, 1, 40, 8000, most - 1078, most - 1077, most - 1076, most - 1000, most, most + 200} {
			step := powerOfTwo(off, 0)
			for _, v := range []*big.Int{place, new(big.Int).Add(place, step), new(big.Int).Sub(place, step)} {
				if d, ok := rightOf(v, -most); ok {
					list = append(list, d)
				}
			}
		}
	}
	return list
}

// extremes are numbers that no finite one is near to, and such as are just not so.
func extremes() []api.Dyadic {
	list := []api.Dyadic{{}, {M: api.Whole{Limbs: []uint32{}}}}
	d := dice(3)
	longest := wholeOf(powerOfTwo(maxBits, -1))
	for _, m := range []api.Whole{wholeOf(big.NewInt(1)), wholeOf(big.NewInt(3)), longest, wholeOf(powerOfTwo(maxBits-1, 1)), d.odd(2), d.odd(3), d.odd(35), d.odd(256), d.odd(512)} {
		length := dyadic.Top(api.Dyadic{M: m})
		list = append(list, api.Dyadic{M: m}, api.Dyadic{M: m, E: most}, api.Dyadic{M: m, E: -most})
		for _, top := range []int{-most + 1, -5000, -1076, -1075, -1074, -1073, -1072, -1023, -1022, -1021, -1020, 0, 53, 1022, 1023, 1024, 1025, 1026, 5000, most} {
			if e := top - length; -most <= e && e <= most {
				list = append(list, api.Dyadic{M: m, E: e})
			}
		}
	}
	return list
}

// samples are right numbers of both signs, of all sizes, and beside all that is told apart in rounding.
func samples() []api.Dyadic {
	list := extremes()
	for i, b := range positives() {
		if near := beside(b); i < 60 {
			list = append(list, near...)
		} else {
			list = append(list, near[i%len(near)])
		}
	}
	for _, d := range slices.Clone(list) {
		if len(d.M.Limbs) > 0 {
			d.M.Neg = !d.M.Neg
			list = append(list, d)
		}
	}
	return list
}

// wrongWholes are whole numbers that are not right.
func wrongWholes() []api.Whole {
	d := dice(7)
	return []api.Whole{
		{Neg: true},
		{Limbs: []uint32{0}},
		{Neg: true, Limbs: []uint32{0, 0}},
		{Limbs: []uint32{5, 0}},
		{Limbs: make([]uint32, api.MaxLimbs+1)},
		d.odd(api.MaxLimbs + 1),
	}
}

// wrongs are numbers that are not right, some of them in several ways.
func wrongs() []api.Dyadic {
	var list []api.Dyadic
	for _, m := range wrongWholes() {
		list = append(list, api.Dyadic{M: m}, api.Dyadic{M: m, E: most + 1}, api.Dyadic{M: m, E: math.MinInt})
	}
	for _, m := range []*big.Int{big.NewInt(2), big.NewInt(-6), powerOfTwo(32, 0), powerOfTwo(maxBits-1, 0), powerOfTwo(maxBits, -2)} {
		list = append(list, api.Dyadic{M: wholeOf(m)}, api.Dyadic{M: wholeOf(m), E: -most}, api.Dyadic{M: wholeOf(m), E: math.MaxInt})
	}
	for _, e := range []int{most + 1, -most - 1, 2*most + 1, math.MaxInt, math.MinInt, math.MaxInt32 + 1} {
		list = append(list, number(1, e), number(-3, e), number(0, e))
	}
	for _, e := range []int{1, -1, most, -most} {
		list = append(list, number(0, e))
	}
	return list
}

// TestSamplesAreRight guards the other tests: what they take for right must be so.
func TestSamplesAreRight(t *testing.T) {
	for _, a := range samples() {
		if b, ok := rightOf(inUnits(a), -most); !ok || !same(a, b) || dyadic.Check(a) != api.OK {
			t.Errorf("%s is not right", show(a))
		}
	}
	for _, a := range wrongs() {
		if dyadic.Check(a) == api.OK {
			t.Errorf("%s is right", show(a))
		}
	}
}
