package root_test

import (
	"math"
	"math/big"
	"slices"
	"sort"
	"testing"

	"dioptra/api"
)

const (
	greatest    = api.Inf - 1
	leastNormal = api.Bits(1 << 52)
	least       = api.Bits(1)
	low         = 1074 // values are counted in units of 2^-low
)

// dice gives the same bits in every run.
type dice uint64

func (d *dice) roll() uint64 {
	*d ^= *d << 13
	*d ^= *d >> 7
	*d ^= *d << 17
	return uint64(*d)
}

// power is 2^e, of any number that is finite and not 0.
func power(e int) api.Bits {
	if e < -1022 {
		return 1 << (e + low)
	}
	return api.Bits(1023+e) << 52
}

// times2 is m times 2^e, m being below 2^53 and the whole of it a number.
func times2(m uint64, e int) api.Bits {
	return api.Bits(math.Float64bits(math.Ldexp(float64(m), e)))
}

// minus is b with the other sign.
func minus(b api.Bits) api.Bits {
	return b ^ api.NegZero
}

func float(b api.Bits) float64 {
	return math.Float64frombits(uint64(b))
}

// unitsOf is a finite number's value in units of 2^-low, by the machine's own numbers.
func unitsOf(b api.Bits) *big.Int {
	v, _ := new(big.Float).SetMantExp(big.NewFloat(float(b)), low).Int(nil)
	return v
}

// standing is how the square of so many halves of a unit stands to a's value.
func standing(halves *big.Int, a api.Bits) int {
	square := new(big.Int).Mul(halves, halves)
	value := unitsOf(a)
	return square.Cmp(value.Lsh(value, low+2))
}

// squared is how b's square stands to a's value.
func squared(b, a api.Bits) int {
	return standing(new(big.Int).Lsh(unitsOf(b), 1), a)
}

// halfway is how the square of what lies halfway between b and the next number above stands to a's value.
func halfway(b, a api.Bits) int {
	return standing(new(big.Int).Add(unitsOf(b), unitsOf(b+1)), a)
}

// nearest is the number that is nearest to the root of a, a being above 0, and its flags: it looks for the numbers on both sides of the root. No root lies halfway, which TestSamplesAreRight looks after.
func nearest(a api.Bits) (api.Bits, api.Flags) {
	found := api.Bits(sort.Search(int(greatest), func(b int) bool { return squared(api.Bits(b), a) >= 0 }))
	if halfway(found-1, a) > 0 {
		found--
	}
	if squared(found, a) == 0 {
		return found, 0
	}
	return found, api.Inexact
}

// edges are finite numbers above 0 at which kinds, sizes or ways of roots change.
func edges() []api.Bits {
	list := []api.Bits{1, 2, 3, 4, 5, 8, 9, 15, 16, 17, leastNormal - 2, leastNormal - 1, leastNormal, leastNormal + 1, 2*leastNormal - 1, 2 * leastNormal, 2*leastNormal + 1, greatest - 2, greatest - 1, greatest}
	for e := -1073; e <= 1023; e++ { // even and odd ones of all sizes
		if e%53 == 0 || e%53 == 1 || e < -1016 || -5 < e && e < 6 || e > 1018 {
			list = append(list, power(e)-1, power(e), power(e)+1)
		}
	}
	return list
}

// some are n finite numbers above 0, and n subnormal ones of all sizes.
func some(n int) []api.Bits {
	var list []api.Bits
	d := dice(20261117)
	for i := range n {
		list = append(list, 1+api.Bits(d.roll())%greatest, 1+api.Bits(d.roll())%(leastNormal-1)>>(i%52))
	}
	return list
}

// squares are numbers that are squares of such as have at most 26 digits, of all sizes.
func squares() []api.Bits {
	var list []api.Bits
	d := dice(7)
	for digits := range 26 {
		for range 6 {
			m := 1<<digits | d.roll()>>(64-digits)
			for _, e := range []int{0, 2, -2, 100, -1000, 960, -1074} {
				list = append(list, times2(m*m, e))
			}
		}
	}
	for m := range uint64(40) {
		list = append(list, times2((m+1)*(m+1), 0), times2((m+1)*(m+1), -1074))
	}
	return append(list, times2((1<<26-1)*(1<<26-1), 0), times2((1<<26-1)*(1<<26-1), 972), times2((1<<26-1)*(1<<26-1), -1074))
}

// beside are the numbers of a list and those next to them on both sides.
func beside(list []api.Bits) []api.Bits {
	var three []api.Bits
	for _, b := range list {
		three = append(three, b-1, b, b+1)
	}
	return slices.DeleteFunc(three, func(b api.Bits) bool { return b == api.Zero || b == api.Inf })
}

// oddRoot is an r with r times r being c, but for multiples of 2^s; c is 1, but for multiples of 8.
func oddRoot(c int64, s uint) uint64 {
	r := uint64(1)
	for k := uint(3); k < s; k++ {
		if (r*r-uint64(c))>>k&1 == 1 {
			r += 1 << (k - 1)
		}
	}
	return r
}

// nearHalf are numbers, the digits of whose roots are those of h less c by twice h, h being odd and of 54 digits: h times h less c is x times 2^s, x being below 2^53.
func nearHalf(c int64, s uint) []api.Bits {
	var list []api.Bits
	r, all := oddRoot(c, s), uint64(1)<<s
	for _, h := range []uint64{r, all - r, r + all/2, all + all/2 - r} {
		exact := new(big.Int).SetUint64(h % all)
		long := exact.BitLen() == 54
		exact.Mul(exact, exact).Sub(exact, big.NewInt(c)).Rsh(exact, s)
		if long && exact.BitLen() <= 53 {
			list = append(list, spread(exact.Uint64(), int(s&1))...)
		}
	}
	return list
}

// spread are numbers of all sizes, the digits of whose roots are those of the root of x times 2^odd; one of them is subnormal, where that can be.
func spread(x uint64, odd int) []api.Bits {
	list := []api.Bits{times2(x, odd), times2(x, odd-500), times2(x, odd+960), times2(x, odd-1000)}
	if x<<odd < 1<<52 {
		list = append(list, times2(x<<odd, -1074))
	}
	return list
}

// nearHalves are numbers whose roots lie just below halfway between two numbers, and just above, hardly any being nearer.
func nearHalves() (below, above []api.Bits) {
	for s := uint(54); s <= 57; s++ {
		for c := int64(1); c < 500; c += 8 {
			below = append(below, nearHalf(c, s)...)
			above = append(above, nearHalf(-6-c, s)...)
		}
	}
	return below, above
}

// sizes are finite numbers above 0 whose roots are to be reckoned.
func sizes() []api.Bits {
	below, above := nearHalves()
	return slices.Concat(edges(), some(150), beside(squares()), below, above)
}

func noughts() []api.Bits {
	return []api.Bits{api.Zero, api.NegZero}
}

// noNumbers are the edges of what is no number, of both signs.
func noNumbers() []api.Bits {
	return []api.Bits{api.NaN, api.Inf + 1, api.Inf + 7, api.NaN - 1, api.NaN + 1, 1<<63 - 1, api.NegInf + 1, minus(api.NaN), math.MaxUint64}
}

// below0 are numbers below 0 of every size.
func below0() []api.Bits {
	var list []api.Bits
	d := dice(70)
	for power := range api.Bits(2047) {
		for _, fraction := range []api.Bits{1, api.Bits(d.roll()) % (1 << 52), 1<<52 - 1} {
			list = append(list, api.NegZero|power<<52|fraction)
		}
	}
	for _, b := range slices.Concat(edges(), squares()) {
		list = append(list, minus(b))
	}
	return append(list, api.NegInf)
}

// all are numbers of all kinds.
func all() []api.Bits {
	return slices.Concat(sizes(), noughts(), []api.Bits{api.Inf}, below0(), noNumbers())
}

// TestSamplesAreRight guards the other tests: what is above 0 is finite, what is below 0 is less, no number is none, and what is made to have its root just beside halfway has it there.
func TestSamplesAreRight(t *testing.T) {
	for _, b := range sizes() {
		if f := float(b); f <= 0 || f-f != 0 {
			t.Errorf("%x is not finite, or not above 0", b)
		}
	}
	for _, b := range below0() {
		if !(float(b) < 0) {
			t.Errorf("%x is not below 0", b)
		}
	}
	for _, b := range noNumbers() {
		if !math.IsNaN(float(b)) {
			t.Errorf("%x is a number", b)
		}
	}
	for i, a := range sizes() {
		if b, _ := nearest(a); halfway(b, a) == 0 || halfway(b-1, a) == 0 {
			t.Errorf("%d: the root of %x lies halfway", i, a)
		}
	}
}

// part is how far from halfway between two numbers the root of a lies, in parts of which there are 2^50 in their distance.
func part(a api.Bits) int64 {
	const more = 100
	value := unitsOf(a)
	root := value.Sqrt(value.Lsh(value, low+2*more)) // in units of 2^-low, with more digits
	above, _ := nearest(a)
	if squared(above, a) < 0 {
		above++
	}
	step := new(big.Int).Sub(unitsOf(above), unitsOf(above-1))
	middle := new(big.Int).Add(unitsOf(above), unitsOf(above-1))
	root.Sub(root, middle.Lsh(middle, more-1))
	return root.Lsh(root, 50).Quo(root, step.Lsh(step, more)).Int64()
}

// TestNearHalvesAreNear guards the other tests.
func TestNearHalvesAreNear(t *testing.T) {
	below, above := nearHalves()
	subnormal := 0
	for _, list := range [][]api.Bits{below, above} {
		if len(list) < 300 {
			t.Errorf("%d numbers", len(list))
		}
		for _, a := range list {
			if p := part(a); p < -20 || p > 20 {
				t.Errorf("%x lies %d parts off", a, p)
			}
			if a < leastNormal {
				subnormal++
			}
		}
	}
	for _, a := range below {
		if b, _ := nearest(a); squared(b, a) > 0 {
			t.Errorf("%x is not below halfway", a)
		}
	}
	for _, a := range above {
		if b, _ := nearest(a); squared(b, a) < 0 {
			t.Errorf("%x is not above halfway", a)
		}
	}
	if subnormal < 20 {
		t.Errorf("%d subnormal ones", subnormal)
	}
}
