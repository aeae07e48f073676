package sum_test

import (
	"math"
	"math/big"
	"slices"
	"sort"
	"testing"

	"dioptra/api"
)

const (
	greatest    = api.Inf - 1
	leastNormal = api.Bits(1 << 52)
	minusOne    = api.One | api.NegZero
	low         = 1074 // values are counted in units of 2^-low
)

// dice gives the same bits in every run.
type dice uint64

func (d *dice) roll() uint64 {
	*d ^= *d << 13
	*d ^= *d >> 7
	*d ^= *d << 17
	return uint64(*d)
}

// power is 2^e, of a normal number.
func power(e int) api.Bits {
	return api.Bits(1023+e) << 52
}

// minus is b with the other sign.
func minus(b api.Bits) api.Bits {
	return b ^ api.NegZero
}

func float(b api.Bits) float64 {
	return math.Float64frombits(uint64(b))
}

// unitsOf is a finite number's value in units of 2^-low, by the machine's own numbers; that of Inf stands for 2^1024.
func unitsOf(b api.Bits) *big.Int {
	f := float(b)
	if math.IsInf(f, 0) {
		v := new(big.Int).Lsh(big.NewInt(1), low+1024)
		return v.Mul(v, big.NewInt(int64(math.Copysign(1, f))))
	}
	v, _ := new(big.Float).SetMantExp(big.NewFloat(f), low).Int(nil)
	return v
}

// nearest rounds v, which is not 0, and tells the flags, as chapter 4's words say it: it holds v against the numbers on both sides of it.
func nearest(v *big.Int) (api.Bits, api.Flags) {
	size := new(big.Int).Abs(v)
	above := api.Bits(sort.Search(int(api.Inf), func(b int) bool { return unitsOf(api.Bits(b)).Cmp(size) >= 0 }))
	down := new(big.Int).Sub(size, unitsOf(above-1))
	up := new(big.Int).Sub(unitsOf(above), size)
	found := above
	if side := down.Cmp(up); side < 0 || side == 0 && above%2 == 1 {
		found = above - 1
	}
	return found | api.Bits(v.Sign()&2)<<62, flagsOf(size, found)
}

// flagsOf are the flags of a size that was rounded to b.
func flagsOf(size *big.Int, b api.Bits) api.Flags {
	switch {
	case b == api.Inf:
		return api.Inexact | api.Overflow
	case unitsOf(b).Cmp(size) == 0:
		return 0
	case b < leastNormal:
		return api.Inexact | api.Underflow
	}
	return api.Inexact
}

// exactly is the sum of two finite numbers in units.
func exactly(a, b api.Bits) *big.Int {
	return new(big.Int).Add(unitsOf(a), unitsOf(b))
}

// place is where a number stands in the order of all; both noughts stand at 0.
func place(b api.Bits) int64 {
	if b >= api.NegZero {
		return -int64(b - api.NegZero)
	}
	return int64(b)
}

// edges are finite numbers with the sign 0 at which kinds or sizes change.
func edges() []api.Bits {
	list := []api.Bits{api.Zero, 1, 2, 3, leastNormal - 2, leastNormal - 1, leastNormal, leastNormal + 1, 2*leastNormal - 1, 2 * leastNormal, 2*leastNormal + 1, greatest - 1, greatest, power(1023)}
	for _, e := range []int{-1000, -53, -52, -1, 0, 1, 52, 53, 54, 970, 971, 1000} {
		list = append(list, power(e)-1, power(e), power(e)+1)
	}
	return list
}

// signed are the numbers of a list with both signs.
func signed(list []api.Bits) []api.Bits {
	var both []api.Bits
	for _, b := range list {
		both = append(both, b, minus(b))
	}
	return both
}

// finites are finite numbers of both signs.
func finites() []api.Bits {
	return signed(append(edges(), some(12)...))
}

// some are n finite numbers with the sign 0, n of them subnormal.
func some(n int) []api.Bits {
	var list []api.Bits
	d := dice(20261117)
	for range n {
		list = append(list, api.Bits(d.roll())%api.Inf, api.Bits(d.roll())%leastNormal)
	}
	return list
}

// noNumbers are the edges of what is no number, of both signs.
func noNumbers() []api.Bits {
	return []api.Bits{api.NaN, api.Inf + 1, api.Inf + 7, api.NaN - 1, api.NaN + 1, 1<<63 - 1, api.NegInf + 1, minus(api.NaN), math.MaxUint64}
}

// numbers are those that have a place in the order of all.
func numbers() []api.Bits {
	return append(finites(), api.Inf, api.NegInf)
}

// all are numbers of all kinds.
func all() []api.Bits {
	return append(numbers(), noNumbers()...)
}

type pair struct {
	a, b api.Bits
}

// halves are pairs of finite numbers whose sums lie halfway between two numbers, and just beside halfway.
func halves() []pair {
	var list []pair
	for _, e := range []int{-1021, -1020, -969, -968, -1, 0, 1, 53, 500, 1023} {
		for _, fraction := range []api.Bits{0, 1, 2, 3, 1 << 51, 1<<52 - 2, 1<<52 - 1} {
			a, half := power(e)|fraction, halfStep(e)
			for _, b := range []api.Bits{half - 1, half, half + 1, minus(half - 1), minus(half), minus(half + 1)} {
				list = append(list, pair{a, b}, pair{minus(a), minus(b)})
			}
		}
	}
	return list
}

// halfStep is half of the step between numbers from 2^e on: 2^(e - 53).
func halfStep(e int) api.Bits {
	if e-53 >= -1022 {
		return power(e - 53)
	}
	return 1 << (e - 53 + low)
}

// rolled are n pairs of finite numbers whose powers lie so near that all of their digits may count.
func rolled(n int) []pair {
	var list []pair
	d := dice(5)
	for range n {
		a := api.Bits(d.roll()) &^ api.NegZero % api.Inf
		apart := api.Bits(d.roll()%120) << 52
		b := api.Bits(d.roll())%(1<<52) | a>>52<<52
		if b >= apart {
			b -= apart
		}
		list = append(list, pair{a, b}, pair{a, minus(b)}, pair{minus(b), a})
	}
	return list
}

// pairs are pairs of finite numbers: the edges with each other, halves, and rolled ones.
func pairs() []pair {
	list := slices.Concat(halves(), rolled(200))
	for _, a := range finites() {
		for _, b := range finites() {
			list = append(list, pair{a, b})
		}
	}
	return list
}

// TestSamplesAreRight guards the other tests: finite is finite, no number is none, and halves hold what they are made for.
func TestSamplesAreRight(t *testing.T) {
	for _, p := range pairs() {
		if f, g := float(p.a), float(p.b); f-f != 0 || g-g != 0 {
			t.Errorf("%x, %x: not finite", p.a, p.b)
		}
	}
	for _, b := range noNumbers() {
		if !math.IsNaN(float(b)) {
			t.Errorf("%x is a number", b)
		}
	}
	ties := 0
	for _, p := range halves() {
		twice := exactly(p.a, p.b)
		twice.Lsh(twice.Abs(twice), 1)
		size := api.Bits(math.Float64bits(math.Abs(float(p.a) + float(p.b))))
		for _, next := range []api.Bits{min(size, greatest), size - 1} { // halfway lies above or below what it is rounded to
			if exactly(next, next+1).Cmp(twice) == 0 {
				ties++
				break
			}
		}
	}
	if ties < 200 {
		t.Errorf("%d sums lie halfway", ties)
	}
}

// TestNearestIsRight guards the other tests: the library's own rounding must agree with theirs.
func TestNearestIsRight(t *testing.T) {
	unit := new(big.Int).Lsh(big.NewInt(1), low)
	for i, p := range pairs() {
		v := exactly(p.a, p.b)
		if v.Sign() == 0 || i%5 > 0 {
			continue
		}
		f, _ := new(big.Rat).SetFrac(v, unit).Float64()
		if b, _ := nearest(v); uint64(b) != math.Float64bits(f) {
			t.Errorf("%x and %x: %x; the library says %x", p.a, p.b, b, math.Float64bits(f))
		}
	}
}
