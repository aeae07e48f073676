package compare_test

import (
	"math"
	"math/big"
	"slices"
	"testing"

	"dioptra/api"
)

const (
	greatest    = api.Inf - 1
	leastNormal = api.Bits(1 << 52)
	least       = api.Bits(1)
	low         = 1074 // values are counted in units of 2^-low

	off   = api.Inexact
	under = api.Inexact | api.Underflow
	over  = api.Inexact | api.Overflow
)

// dice gives the same bits in every run.
type dice uint64

func (d *dice) roll() uint64 {
	*d ^= *d << 13
	*d ^= *d >> 7
	*d ^= *d << 17
	return uint64(*d)
}

// power is 2^e, of any number that is finite and not 0.
func power(e int) api.Bits {
	if e < -1022 {
		return 1 << (e + low)
	}
	return api.Bits(1023+e) << 52
}

// minus is b with the other sign.
func minus(b api.Bits) api.Bits {
	return b ^ api.NegZero
}

func float(b api.Bits) float64 {
	return math.Float64frombits(uint64(b))
}

func bitsOf(f float64) api.Bits {
	return api.Bits(math.Float64bits(f))
}

// unitsOf is a finite number's value in units of 2^-low, by the machine's own numbers.
func unitsOf(b api.Bits) *big.Int {
	v, _ := new(big.Float).SetMantExp(big.NewFloat(float(b)), low).Int(nil)
	return v
}

// bothSigns are the numbers of a list, each followed by itself with the other sign.
func bothSigns(list []api.Bits) []api.Bits {
	var both []api.Bits
	for _, b := range list {
		both = append(both, b, minus(b))
	}
	return both
}

// edges are finite numbers above 0 at which kinds and powers change.
func edges() []api.Bits {
	list := []api.Bits{least, 2, 3, 4, 5, 6, 7, leastNormal - 2, leastNormal - 1, leastNormal, leastNormal + 1, 2*leastNormal - 1, 2 * leastNormal, 2*leastNormal + 1, greatest - 2, greatest - 1, greatest}
	for e := -1073; e <= 1023; e++ {
		if e%53 == 0 || e < -1065 || -1030 < e && e < -1015 || -5 < e && e < 6 || 50 < e && e < 66 || e > 1018 {
			list = append(list, power(e)-1, power(e), power(e)+1, power(e)+1<<51)
		}
	}
	return list
}

// some are n finite numbers above 0 of any size, n subnormal ones and n from 1 to 2^66.
func some(n int) []api.Bits {
	var list []api.Bits
	d := dice(20261117)
	for i := range n {
		list = append(list, 1+api.Bits(d.roll())%greatest, 1+api.Bits(d.roll())%(leastNormal-1)>>(i%52), power(i%66)+api.Bits(d.roll())%(1<<52))
	}
	return list
}

// sizes are finite numbers above 0.
func sizes() []api.Bits {
	return append(edges(), some(200)...)
}

func noughts() []api.Bits {
	return []api.Bits{api.Zero, api.NegZero}
}

func endless() []api.Bits {
	return []api.Bits{api.Inf, api.NegInf}
}

// noNumbers are the edges of what is no number, of both signs.
func noNumbers() []api.Bits {
	return []api.Bits{api.NaN, api.Inf + 1, api.Inf + 7, api.NaN - 1, api.NaN + 1, 1<<63 - 1, api.NegInf + 1, minus(api.NaN), minus(api.NaN) - 1, math.MaxUint64}
}

func finites() []api.Bits {
	return append(bothSigns(sizes()), noughts()...)
}

// ordered are all that can be held against each other.
func ordered() []api.Bits {
	return append(finites(), endless()...)
}

// all are numbers of all kinds.
func all() []api.Bits {
	return append(ordered(), noNumbers()...)
}

// few are numbers of all kinds, so few that all pairs of them can be gone over.
func few() []api.Bits {
	list := []api.Bits{least, 2, leastNormal - 1, leastNormal, leastNormal + 1, api.One - 1, api.One, api.One + 1, power(1), power(52), power(53), power(63), greatest - 1, greatest}
	d := dice(8)
	for range 40 {
		list = append(list, 1+api.Bits(d.roll())%greatest)
	}
	return slices.Concat(bothSigns(list), noughts(), endless(), noNumbers())
}

// wholes are numbers of 64 bits at which Int rounds in another way.
func wholes() []int64 {
	list := []int64{0, math.MaxInt64, math.MaxInt64 - 1, math.MinInt64, math.MinInt64 + 1}
	for e := range 63 {
		for step := int64(-3); step <= 3; step++ {
			list = append(list, 1<<e+step)
		}
		if e < 54 {
			continue
		}
		half := int64(1) << (e - 53) // of the distance of numbers from 2^e on
		for _, k := range []int64{1, 2, 3, 5, 1<<53 - 3, 1<<53 - 1} {
			list = append(list, 1<<e+k*half-1, 1<<e+k*half, 1<<e+k*half+1)
		}
	}
	d := dice(80)
	for i := range 2000 {
		list = append(list, int64(d.roll())>>(i%64))
	}
	for _, n := range slices.Clone(list) {
		list = append(list, -n) // the least one stays as it is
	}
	return list
}

// TestSamplesAreRight guards the other tests.
func TestSamplesAreRight(t *testing.T) {
	for _, b := range sizes() {
		if f := float(b); f <= 0 || f-f != 0 {
			t.Errorf("%x is not finite, or not above 0", b)
		}
	}
	for _, b := range noNumbers() {
		if !math.IsNaN(float(b)) {
			t.Errorf("%x is a number", b)
		}
	}
	raised := map[api.Flags]int{}
	for _, n := range wholes() {
		_, flags := nearest(new(big.Float).SetInt64(n))
		raised[flags]++
	}
	if raised[0] < 1000 || raised[off] < 300 {
		t.Errorf("of whole numbers %d are numbers, and %d are not", raised[0], raised[off])
	}
}
