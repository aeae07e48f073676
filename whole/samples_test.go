package whole_test

import (
	"encoding/binary"
	"fmt"
	"math"
	"math/big"
	"slices"
	"testing"

	"dioptra/api"
	"dioptra/whole"
)

const maxBits = 32 * api.MaxLimbs

// valueOf is a's value as the word says it: the i-th limb times 2^(32 i).
func valueOf(a api.Whole) *big.Int {
	var lowFirst []byte
	for _, limb := range a.Limbs {
		lowFirst = binary.LittleEndian.AppendUint32(lowFirst, limb)
	}
	slices.Reverse(lowFirst)
	v := new(big.Int).SetBytes(lowFirst)
	if a.Neg {
		v.Neg(v)
	}
	return v
}

// numberOf is the right number of v, made without the package that is tested.
func numberOf(v *big.Int) api.Whole {
	limbs := make([]uint32, (v.BitLen()+31)/32)
	highFirst := v.FillBytes(make([]byte, 4*len(limbs)))
	for i := range limbs {
		limbs[len(limbs)-1-i] = binary.BigEndian.Uint32(highFirst[4*i:])
	}
	return api.Whole{Neg: v.Sign() < 0, Limbs: limbs}
}

// powerOfTwo is 2^n plus more.
func powerOfTwo(n uint, more int64) *big.Int {
	v := new(big.Int).Lsh(big.NewInt(1), n)
	return v.Add(v, big.NewInt(more))
}

func same(a, b api.Whole) bool {
	return a.Neg == b.Neg && slices.Equal(a.Limbs, b.Limbs)
}

// show tells a number in few words, however long it is.
func show(a api.Whole) string {
	limbs := a.Limbs
	if len(limbs) > 4 {
		limbs = append(slices.Clone(limbs[:2]), limbs[len(limbs)-2:]...)
	}
	return fmt.Sprintf("{%v %d limbs %x}", a.Neg, len(a.Limbs), limbs)
}

// wants holds an answer against the exact one: ErrRange just if that has too many limbs.
func wants(t *testing.T, what string, got api.Whole, e api.Errno, want *big.Int) {
	t.Helper()
	if want.BitLen() > maxBits {
		wantsError(t, what, got, e, api.ErrRange)
		return
	}
	if e != api.OK || !same(got, numberOf(want)) {
		t.Errorf("%s: %s, %v; wanted %s", what, show(got), e, show(numberOf(want)))
	}
}

// wantsError asks for an error with a zero value beside it.
func wantsError(t *testing.T, what string, got api.Whole, e, want api.Errno) {
	t.Helper()
	if e != want || got.Neg || len(got.Limbs) != 0 {
		t.Errorf("%s: %s, %v; wanted %v", what, show(got), e, want)
	}
}

// dice gives the same bits in every run.
type dice uint64

func (d *dice) roll() uint64 {
	*d ^= *d << 13
	*d ^= *d >> 7
	*d ^= *d << 17
	return uint64(*d)
}

// limbs gives n limbs, the last not 0; some are 0 or full, since carries run through those.
func (d *dice) limbs(n int) []uint32 {
	list := make([]uint32, n)
	for i := range list {
		switch d.roll() % 4 {
		case 0:
			list[i] = 0
		case 1:
			list[i] = math.MaxUint32
		default:
			list[i] = uint32(d.roll())
		}
	}
	if n > 0 && list[n-1] == 0 {
		list[n-1] = 1
	}
	return list
}

func (d *dice) number(n int) api.Whole {
	return api.Whole{Neg: n > 0 && d.roll()%2 == 0, Limbs: d.limbs(n)}
}

// samples are right numbers of all sizes: near powers of two, at the limits, and thrown.
func samples() []api.Whole {
	list := []api.Whole{{}, {Limbs: []uint32{}}}
	for _, n := range []uint{0, 1, 31, 32, 33, 62, 63, 64, 65, 96, 1000, maxBits/2 - 1, maxBits / 2, maxBits - 33, maxBits - 32, maxBits - 1, maxBits} {
		for more := int64(-1); more <= 1; more++ {
			v := powerOfTwo(n, more)
			if v.Sign() > 0 && v.BitLen() <= maxBits {
				list = append(list, numberOf(v), numberOf(v.Neg(v)))
			}
		}
	}
	d := dice(20261116)
	for _, n := range []int{1, 1, 2, 2, 3, 4, 7, 20, 80, 255, 256, 257, 300, 511, 512, 512} {
		list = append(list, d.number(n))
	}
	return list
}

// wrongs are numbers that are not right.
func wrongs() []api.Whole {
	d := dice(7)
	return []api.Whole{
		{Neg: true},
		{Neg: true, Limbs: []uint32{}},
		{Limbs: []uint32{0}},
		{Neg: true, Limbs: []uint32{0}},
		{Limbs: []uint32{5, 0}},
		{Neg: true, Limbs: []uint32{1, 2, 0}},
		{Limbs: make([]uint32, api.MaxLimbs)},
		{Limbs: make([]uint32, api.MaxLimbs+1)},
		d.number(api.MaxLimbs + 1),
		d.number(4 * api.MaxLimbs),
	}
}

// smalls are numbers of 64 bits, the edges among them.
func smalls() []int64 {
	list := []int64{0}
	for n := range 63 {
		for more := int64(-1); more <= 1; more++ {
			list = append(list, int64(1)<<n+more, -int64(1)<<n+more)
		}
	}
	list = append(list, math.MinInt64, math.MinInt64+1, math.MaxInt64-1, math.MaxInt64)
	d := dice(64)
	for n := range 60 {
		list = append(list, int64(d.roll())>>n)
	}
	return list
}

// TestSamplesAreRight guards the other tests: what they take for right must be so.
func TestSamplesAreRight(t *testing.T) {
	for _, a := range samples() {
		if !same(a, numberOf(valueOf(a))) || whole.Check(a) != api.OK {
			t.Errorf("%s is not right", show(a))
		}
	}
}
