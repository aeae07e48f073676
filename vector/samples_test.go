package vector_test

import (
	"math"
	"math/big"
	"slices"
	"testing"

	"dioptra/api"
)

const (
	greatest    = api.Inf - 1
	leastNormal = api.Bits(1 << 52)
	least       = api.Bits(1)
	low         = 1074 // values are counted in units of 2^-low

	two   = api.Bits(0x4000000000000000)
	three = api.Bits(0x4008000000000000)
	four  = api.Bits(0x4010000000000000)
	five  = api.Bits(0x4014000000000000)
	root2 = api.Bits(0x3ff6a09e667f3bcd)
)

// dice gives the same bits in every run.
type dice uint64

func (d *dice) roll() uint64 {
	*d ^= *d << 13
	*d ^= *d >> 7
	*d ^= *d << 17
	return uint64(*d)
}

// below is a number from 0 on, below n.
func (d *dice) below(n int) int {
	return int(d.roll() >> 1 % uint64(n))
}

// sign is a nought of either sign.
func (d *dice) sign() api.Bits {
	return api.Bits(d.roll()) & api.NegZero
}

// power is 2^e, of any number that is finite and not 0.
func power(e int) api.Bits {
	if e < -1022 {
		return 1 << (e + low)
	}
	return api.Bits(1023+e) << 52
}

// minus is b with the other sign.
func minus(b api.Bits) api.Bits {
	return b ^ api.NegZero
}

func float(b api.Bits) float64 {
	return math.Float64frombits(uint64(b))
}

// says is the machine's own number by its bits, whatever no number it makes.
func says(f float64) api.Bits {
	if math.IsNaN(f) {
		return api.NaN
	}
	return api.Bits(math.Float64bits(f))
}

// unitsOf is a finite number's value in units of 2^-low, by the machine's own numbers.
func unitsOf(b api.Bits) *big.Int {
	v, _ := new(big.Float).SetMantExp(big.NewFloat(float(b)), low).Int(nil)
	return v
}

// noNumbers are the edges of what is no number, of both signs.
func noNumbers() []api.Bits {
	return []api.Bits{api.NaN, api.Inf + 1, api.NaN - 1, api.NaN + 1, 1<<63 - 1, api.NegInf + 1, minus(api.NaN), minus(api.NaN) - 1, math.MaxUint64}
}

// sizes are finite numbers above 0 at which kinds and powers change.
func sizes() []api.Bits {
	return []api.Bits{least, 2, 3, leastNormal - 1, leastNormal, leastNormal + 1, power(-600), power(-538), power(-537), power(-53), api.One - 1, api.One, api.One + 1, root2, three, power(53), power(511), power(512), power(700), power(1023), greatest - 1, greatest}
}

// finites are sizes of both signs, and noughts.
func finites() []api.Bits {
	list := []api.Bits{api.Zero, api.NegZero}
	for _, b := range sizes() {
		list = append(list, b, minus(b))
	}
	return list
}

// all are numbers of all kinds.
func all() []api.Bits {
	return slices.Concat(finites(), []api.Bits{api.Inf, api.NegInf}, noNumbers())
}

// lengths are those that a vector may have, the edges first.
func lengths() []int {
	list := []int{0, 1, api.MaxLong}
	for n := 2; n < api.MaxLong; n++ {
		list = append(list, n)
	}
	return list
}

// made is a vector of n numbers that pick makes.
func made(n int, pick func() api.Bits) []api.Bits {
	list := make([]api.Bits, n)
	for i := range list {
		list[i] = pick()
	}
	return list
}

// near are n numbers of both signs, of powers from e on below e + span.
func (d *dice) near(n, e, span int) []api.Bits {
	return made(n, func() api.Bits {
		return power(e+d.below(span)) | api.Bits(d.roll())>>12 | d.sign()
	})
}

// finite are n finite numbers of any size and both signs.
func (d *dice) finite(n int) []api.Bits {
	return made(n, func() api.Bits { return api.Bits(d.roll())&^api.NegZero%api.Inf | d.sign() })
}

// tiny are n subnormal numbers and noughts of both signs.
func (d *dice) tiny(n int) []api.Bits {
	return made(n, func() api.Bits { return api.Bits(d.roll())%leastNormal>>d.below(53) | d.sign() })
}

// mixed are n numbers out of a list.
func (d *dice) mixed(n int, list []api.Bits) []api.Bits {
	return made(n, func() api.Bits { return list[d.below(len(list))] })
}

// vectors are n finite numbers each, of several sorts.
func (d *dice) vectors(n int) [][]api.Bits {
	return [][]api.Bits{
		d.near(n, 0, 1), d.near(n, -3, 6), d.near(n, -30, 60), d.near(n, -300, 600), // whose sums lose few digits or many
		d.near(n, 508, 8), d.near(n, 900, 119), d.near(n, 1020, 4), // whose squares are too great
		d.near(n, -545, 16), d.near(n, -1022, 100), d.tiny(n), // too small
		d.near(n, -1022, 2046), d.finite(n), d.mixed(n, finites()), // of very unlike sizes
	}
}

// TestSamplesAreRight guards the other tests.
func TestSamplesAreRight(t *testing.T) {
	d := dice(90)
	for _, n := range lengths() {
		for sort, x := range d.vectors(n) {
			if len(x) != n {
				t.Errorf("sort %d: %d numbers; wanted %d", sort, len(x), n)
			}
			for _, b := range x {
				if f := float(b); f-f != 0 {
					t.Errorf("sort %d: %x is not finite", sort, b)
				}
			}
		}
	}
	for _, b := range d.tiny(1000) {
		if b&^api.NegZero >= leastNormal {
			t.Errorf("%x is not subnormal", b)
		}
	}
	for _, b := range d.near(1000, -3, 6) {
		if f := math.Abs(float(b)); f < 0.125 || f >= 8 {
			t.Errorf("%x does not lie from 2^-3 on below 2^3", b)
		}
	}
	for _, b := range noNumbers() {
		if !math.IsNaN(float(b)) {
			t.Errorf("%x is a number", b)
		}
	}
}
