package times_test

import (
	"math"
	"math/big"
	"math/bits"
	"slices"
	"sort"
	"testing"

	"dioptra/api"
)

const (
	greatest    = api.Inf - 1
	leastNormal = api.Bits(1 << 52)
	least       = api.Bits(1)
	minusOne    = api.One | api.NegZero
	low         = 1074 // values are counted in units of 2^-low
)

// dice gives the same bits in every run.
type dice uint64

func (d *dice) roll() uint64 {
	*d ^= *d << 13
	*d ^= *d >> 7
	*d ^= *d << 17
	return uint64(*d)
}

// power is 2^e, of any number that is finite and not 0.
func power(e int) api.Bits {
	if e < -1022 {
		return 1 << (e + low)
	}
	return api.Bits(1023+e) << 52
}

// times2 is m times 2^e, m being below 2^53 and the whole of it a number.
func times2(m uint64, e int) api.Bits {
	return api.Bits(math.Float64bits(math.Ldexp(float64(m), e)))
}

// minus is b with the other sign.
func minus(b api.Bits) api.Bits {
	return b ^ api.NegZero
}

func float(b api.Bits) float64 {
	return math.Float64frombits(uint64(b))
}

// unitsOf is a finite number's value in units of 2^-low, by the machine's own numbers; that of Inf stands for 2^1024.
func unitsOf(b api.Bits) *big.Int {
	f := float(b)
	if math.IsInf(f, 0) {
		v := new(big.Int).Lsh(big.NewInt(1), low+1024)
		return v.Mul(v, big.NewInt(int64(math.Copysign(1, f))))
	}
	v, _ := new(big.Float).SetMantExp(big.NewFloat(f), low).Int(nil)
	return v
}

// fraction is a value of up by down units; down is not 0.
type fraction struct {
	up, down *big.Int
}

// product is that of two finite numbers.
func product(a, b api.Bits) fraction {
	return fraction{new(big.Int).Mul(unitsOf(a), unitsOf(b)), new(big.Int).Lsh(big.NewInt(1), low)}
}

// quotient is that of two finite numbers, b being no nought.
func quotient(a, b api.Bits) fraction {
	v := unitsOf(a)
	return fraction{v.Lsh(v, low), unitsOf(b)}
}

func (f fraction) negative() bool {
	return f.up.Sign()*f.down.Sign() < 0
}

// against is how f's size stands to b's.
func (f fraction) against(b api.Bits) int {
	return f.up.CmpAbs(new(big.Int).Mul(unitsOf(b), f.down))
}

// above is the least size of a number that is no less than f's.
func (f fraction) above() api.Bits {
	return api.Bits(sort.Search(int(api.Inf), func(b int) bool { return f.against(api.Bits(b)) <= 0 }))
}

// off is how far f's size lies above halfway between b and the number below b, in parts of which there are as many in their distance as whole tells.
func (f fraction) off(b api.Bits) (far, whole *big.Int) {
	down := new(big.Int).Abs(f.down)
	middle := new(big.Int).Add(unitsOf(b-1), unitsOf(b))
	step := new(big.Int).Sub(unitsOf(b), unitsOf(b-1))
	twice := new(big.Int).Abs(f.up)
	twice.Lsh(twice, 1)
	return twice.Sub(twice, middle.Mul(middle, down)), step.Mul(step, down).Lsh(step, 1)
}

// nearest rounds f, which is not 0, and tells the flags, as chapter 4's words say it: it holds f against the numbers on both sides of it.
func nearest(f fraction) (api.Bits, api.Flags) {
	found := f.above()
	if far, _ := f.off(found); far.Sign() < 0 || far.Sign() == 0 && found%2 == 1 {
		found--
	}
	flags := flagsOf(found, f.against(found) == 0)
	if f.negative() {
		return minus(found), flags
	}
	return found, flags
}

// flagsOf are the flags of a size that was rounded to b, b being just that size or not.
func flagsOf(b api.Bits, just bool) api.Flags {
	switch {
	case b == api.Inf:
		return api.Inexact | api.Overflow
	case just:
		return 0
	case b < leastNormal:
		return api.Inexact | api.Underflow
	}
	return api.Inexact
}

// place is where a number stands in the order of all; both noughts stand at 0.
func place(b api.Bits) int64 {
	if b >= api.NegZero {
		return -int64(b - api.NegZero)
	}
	return int64(b)
}

// edges are finite numbers with the sign 0, none of them a nought, at which kinds or sizes change, for themselves or as factors of others.
func edges() []api.Bits {
	list := []api.Bits{1, 2, 3, leastNormal - 2, leastNormal - 1, leastNormal, leastNormal + 1, 2*leastNormal - 1, 2 * leastNormal, 2*leastNormal + 1, greatest - 1, greatest, power(1023)}
	for _, e := range []int{-1000, -538, -537, -512, -511, -53, -1, 0, 1, 2, 53, 511, 512, 1000} {
		list = append(list, power(e)-1, power(e), power(e)+1)
	}
	return append(list, times2(3, 0), times2(10, 0), times2(1, 0)|1<<51)
}

// some are n finite numbers with the sign 0, n of them subnormal.
func some(n int) []api.Bits {
	var list []api.Bits
	d := dice(20261117)
	for range n {
		list = append(list, api.Bits(d.roll())%api.Inf, api.Bits(d.roll())%leastNormal)
	}
	return list
}

// signed are the numbers of a list with both signs.
func signed(list []api.Bits) []api.Bits {
	var both []api.Bits
	for _, b := range list {
		both = append(both, b, minus(b))
	}
	return both
}

// sizes are finite numbers of both signs that are no noughts.
func sizes() []api.Bits {
	return signed(append(edges(), some(8)...))
}

func noughts() []api.Bits {
	return []api.Bits{api.Zero, api.NegZero}
}

func infinites() []api.Bits {
	return []api.Bits{api.Inf, api.NegInf}
}

// noNumbers are the edges of what is no number, of both signs.
func noNumbers() []api.Bits {
	return []api.Bits{api.NaN, api.Inf + 1, api.Inf + 7, api.NaN - 1, api.NaN + 1, 1<<63 - 1, api.NegInf + 1, minus(api.NaN), math.MaxUint64}
}

// all are numbers of all kinds.
func all() []api.Bits {
	return slices.Concat(sizes(), noughts(), infinites(), noNumbers())
}

type pair struct {
	a, b api.Bits
}

// turned are pairs with both signs of each.
func turned(list []pair) []pair {
	var four []pair
	for _, p := range list {
		four = append(four, p, pair{minus(p.a), p.b}, pair{p.a, minus(p.b)}, pair{minus(p.a), minus(p.b)})
	}
	return four
}

// halfProducts are pairs whose products lie halfway between two normal numbers (aside is 0), or as far beside it as one digit counts that stands s digits behind the half.
func halfProducts(aside int64) []pair {
	var list []pair
	d := dice(61)
	for s := uint(1); s <= 52; s++ {
		for range 6 {
			k := d.roll()>>(63-s) | 1<<s | 1 // odd, of s + 1 digits
			if m, ok := cofactor(k, s, aside); ok {
				list = append(list, pair{times2(k, -int(s)), times2(m, 0)}, pair{times2(m, -700), times2(k, 20)}, pair{times2(m, 900), times2(k, 960-int(s)-900)})
			}
		}
	}
	return list
}

// cofactor is an m with k times m being n times 2^s plus aside, n being odd and of 54 digits.
func cofactor(k uint64, s uint, aside int64) (uint64, bool) {
	big2 := new(big.Int).Lsh(big.NewInt(1), s)
	factor := new(big.Int).SetUint64(k)
	n := new(big.Int).ModInverse(big2, factor)
	n.Mul(n, big.NewInt(-aside))
	base := big.NewInt(1 << 53)
	n.Sub(n, base).Mod(n, factor).Add(n, base) // the least n from 2^53 on
	if n.Bit(0) == 0 {
		n.Add(n, factor)
	}
	m := new(big.Int).Mul(n, big2)
	m.Add(m, big.NewInt(aside)).Quo(m, factor)
	return m.Uint64(), n.BitLen() == 54 && m.BitLen() <= 53
}

// nearHalfQuotients are pairs whose quotients lie as near to halfway between two normal numbers as any do: none lies halfway.
func nearHalfQuotients() []pair {
	var list []pair
	d := dice(62)
	for range 150 {
		y := d.roll()>>11 | 1<<52 | 1
		for _, aside := range []int64{-1, 1} {
			for _, s := range []uint{53, 54} {
				if x, ok := dividend(y, s, aside); ok {
					list = append(list, pair{times2(x, 0), times2(y, 0)}, pair{times2(x, 900), times2(y, 3)}, pair{times2(x, -1000), times2(y, -400)})
				}
			}
		}
	}
	return list
}

// dividend is an x with x times 2^s being n times y plus aside, n being odd and of 54 digits.
func dividend(y uint64, s uint, aside int64) (uint64, bool) {
	big2 := new(big.Int).Lsh(big.NewInt(1), s)
	by := new(big.Int).SetUint64(y)
	n := new(big.Int).ModInverse(by, big2)
	n.Mul(n, big.NewInt(-aside)).Mod(n, big2)
	if n.BitLen() < 54 {
		n.Add(n, big2)
	}
	x := new(big.Int).Mul(n, by)
	x.Add(x, big.NewInt(aside)).Rsh(x, s)
	return x.Uint64(), n.BitLen() == 54 && x.BitLen() == 53
}

// lowHalves are numbers and powers of two, whose product lies halfway between two numbers below 2^-1022, and just beside halfway.
func lowHalves() []pair {
	var list []pair
	for _, n := range []uint64{1, 3, 5, 7, 1<<26 + 1, 1<<51 + 1, 1<<52 - 1, 1<<52 + 1, 1<<53 - 3, 1<<53 - 1} {
		list = append(list, pair{times2(n, -500), power(-575)}, pair{times2(n, -1020), power(-55)}, pair{times2(n, -37), power(-1038)})
		for room := 1; bits.Len64(n)+room <= 53; room += 7 {
			list = append(list, pair{times2(n<<room+1, -500), power(-575 - room)}, pair{times2(n<<room-1, -500), power(-575 - room)})
		}
	}
	return list
}

// rolled are n pairs of finite numbers, of which few products and quotients are too great or too small.
func rolled(n int) []pair {
	var list []pair
	d := dice(6)
	for range n {
		a := api.Bits(d.roll()) % api.Inf
		b := api.Bits(d.roll())%(1<<52) | power(int(d.roll()%1100)-550)
		list = append(list, pair{a, b}, pair{b, minus(a)})
	}
	return list
}

// products are pairs for which Mul has something to reckon.
func products() []pair {
	list := slices.Concat(rolled(200), lowHalves())
	for aside := range int64(3) {
		list = append(list, halfProducts(aside-1)...)
	}
	return append(turned(list), grid(sizes())...)
}

// quotients are pairs for which Div has something to reckon.
func quotients() []pair {
	list := slices.Concat(rolled(200), nearHalfQuotients())
	for _, p := range lowHalves() {
		if p.b > power(-1023) {
			list = append(list, pair{p.a, power(0)<<1 - p.b}) // by the power of two that has the other sign
		}
	}
	return append(turned(list), grid(sizes())...)
}

// grid are all pairs of a list's numbers.
func grid(list []api.Bits) []pair {
	var pairs []pair
	for _, a := range list {
		for _, b := range list {
			pairs = append(pairs, pair{a, b})
		}
	}
	return pairs
}

// beside counts how many of a list lie below halfway, at it and above it, within one part in 2^s of the distance of the numbers around.
func beside(t *testing.T, list []fraction, s uint) (sides [3]int) {
	t.Helper()
	for i, f := range list {
		far, whole := f.off(f.above())
		if new(big.Int).Lsh(far, s).CmpAbs(whole) > 0 {
			t.Errorf("%d is not near to halfway", i)
		}
		sides[far.Sign()+1]++
	}
	return sides
}

// each are what f makes of each pair.
func each(list []pair, f func(a, b api.Bits) fraction) []fraction {
	var made []fraction
	for _, p := range list {
		made = append(made, f(p.a, p.b))
	}
	return made
}

// TestSamplesAreRight guards the other tests: finite is finite, no number is none, and what is made to lie at halfway does so.
func TestSamplesAreRight(t *testing.T) {
	for _, p := range slices.Concat(products(), quotients()) {
		if f, g := float(p.a), float(p.b); f-f != 0 || g-g != 0 || f == 0 || g == 0 {
			t.Errorf("%x, %x: not finite, or 0", p.a, p.b)
		}
	}
	for _, b := range noNumbers() {
		if !math.IsNaN(float(b)) {
			t.Errorf("%x is a number", b)
		}
	}
	for aside := range 3 {
		sides := beside(t, each(halfProducts(int64(aside-1)), product), 1)
		if n := sides[0] + sides[1] + sides[2]; n != sides[aside] || n < 300 {
			t.Errorf("%d: %d products", aside-1, sides)
		}
	}
	if sides := beside(t, each(nearHalfQuotients(), quotient), 50); sides[0] < 100 || sides[1] > 0 || sides[2] < 100 {
		t.Errorf("%d quotients", sides)
	}
	if sides := beside(t, each(lowHalves(), product), 1); sides[0] < 20 || sides[1] != 30 || sides[2] < 20 {
		t.Errorf("%d products below 2^-1022", sides)
	}
}

// TestNearestIsRight guards the other tests: the library's own rounding must agree with theirs.
func TestNearestIsRight(t *testing.T) {
	unit := new(big.Int).Lsh(big.NewInt(1), low)
	list := append(each(products(), product), each(quotients(), quotient)...)
	for i, f := range list {
		if i%17 > 0 {
			continue
		}
		float, _ := new(big.Rat).SetFrac(f.up, new(big.Int).Mul(f.down, unit)).Float64()
		if b, _ := nearest(f); uint64(b) != math.Float64bits(float) {
			t.Errorf("%d: %x; the library says %x", i, b, math.Float64bits(float))
		}
	}
}
