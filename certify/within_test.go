package certify_test

import (
	"math/big"
	"testing"

	"dioptra/api"
	"dioptra/certify"
)

const maxBits = 32 * api.MaxLimbs

// powerOfTwo is 2^n plus more.
func powerOfTwo(n uint, more int64) *big.Int {
	v := new(big.Int).Lsh(big.NewInt(1), n)
	return v.Add(v, big.NewInt(more))
}

// dyadics are right numbers that are not below 0: of all lengths, with exponents at their edges and near those of Within.
func dyadics() []api.Dyadic {
	list := []api.Dyadic{{}, {M: api.Whole{Limbs: []uint32{}}}}
	odds := []*big.Int{big.NewInt(1), big.NewInt(3), powerOfTwo(32, -1), powerOfTwo(53, 1), powerOfTwo(4000, -1), powerOfTwo(maxBits-1, 1), powerOfTwo(maxBits, -1)}
	for _, m := range odds {
		for _, e := range []int{-api.MaxExp, -api.MaxExp + 1, -4400, -4001, -4000, -3999, -3600, -400, 0, 1, 400, 12384, api.MaxExp - 1, api.MaxExp} {
			list = append(list, api.Dyadic{M: wholeOf(m), E: e})
		}
	}
	return list
}

// bound is y times 2^(-2 k), and 2^-4000 more.
func bound(y api.Dyadic, k int) value {
	v := valueOf(y)
	v.e -= 2 * k
	return v.plus(value{big.NewInt(1), -4000})
}

// wantsVerdict holds Within against exact numbers of the library.
func wantsVerdict(t *testing.T, x, y api.Dyadic, k int) {
	t.Helper()
	want := valueOf(x).cmp(bound(y, k)) <= 0
	if is, e := certify.Within(x, y, k); is != want || e != api.OK {
		t.Errorf("Within(%s, %s, %d): %v, %v; wanted %v", show(x), show(y), k, is, e, want)
	}
}

func TestP11_2WithinOfAll(t *testing.T) {
	for _, x := range dyadics() {
		for _, y := range dyadics() {
			for _, k := range []int{0, 20, 200} {
				wantsVerdict(t, x, y, k)
			}
		}
	}
}

// around are right numbers that are just v, just less and just more, as near as there are.
func around(v value) []api.Dyadic {
	var list []api.Dyadic
	take := func(v value) {
		if d, ok := v.right(); ok && v.m.Sign() >= 0 {
			list = append(list, d)
		}
	}
	step := func(m int64, e int) value { return value{big.NewInt(m), e} }
	take(v)
	for _, e := range []int{v.e, -4000, -4001, -3999, -api.MaxExp, v.e + v.m.BitLen() - maxBits, v.e + v.m.BitLen() - 1} {
		take(v.plus(step(1, e)))
		take(v.plus(step(-1, e)))
	}
	if cut := v.m.BitLen() - maxBits; cut > 0 { // too wide for a right number: the nearest ones on either side
		low := value{new(big.Int).Rsh(v.m, uint(cut)), v.e + cut}
		take(low)
		take(low.plus(step(1, low.e)))
		take(low.plus(step(-1, low.e)))
	}
	if low := -api.MaxExp; v.e < low { // too small for a right number
		cut := value{new(big.Int).Rsh(v.m, uint(low-v.e)), low}
		take(cut)
		take(cut.plus(step(1, low)))
	}
	return list
}

// TestP11_2WithinJust: at y times 2^(-2 k) and 2^-4000 more, and as near to it as numbers can be, on either side; and so without the 2^-4000.
func TestP11_2WithinJust(t *testing.T) {
	verdicts := map[bool]int{}
	exactly := 0
	for _, y := range dyadics() {
		for _, k := range []int{0, 1, 53, 199, 200} {
			v := bound(y, k)
			for _, x := range around(v) {
				wantsVerdict(t, x, y, k)
				verdicts[valueOf(x).cmp(v) <= 0]++
				if valueOf(x).cmp(v) == 0 {
					exactly++
				}
			}
			for _, x := range around(value{valueOf(y).m, y.E - 2*k}) {
				wantsVerdict(t, x, y, k)
			}
		}
	}
	if verdicts[true] < 1000 || verdicts[false] < 1000 || exactly < 200 {
		t.Errorf("verdicts %v, %d of them just at the bound", verdicts, exactly)
	}
}

// TestP11_2WithinByHand: verdicts that are known without reckoning.
func TestP11_2WithinByHand(t *testing.T) {
	zero, one, slack := api.Dyadic{}, number(1, 0), number(1, -4000)
	next := func(d api.Dyadic) api.Dyadic { // the least right number above a small one
		n, _ := valueOf(d).plus(value{big.NewInt(1), -api.MaxExp}).right()
		return n
	}
	full := api.Dyadic{M: wholeOf(powerOfTwo(maxBits, -1)), E: -4000} // 2^12384 less 2^-4000: with 2^-4000 more it has one digit more than a right number could
	for _, c := range []struct {
		x, y api.Dyadic
		k    int
		want bool
	}{
		{zero, zero, 0, true}, {zero, zero, 200, true}, {zero, one, 200, true},
		{slack, zero, 0, true}, {slack, zero, 200, true}, {next(slack), zero, 0, false}, {next(slack), zero, 200, false},
		{number(1, -4001), zero, 7, true}, {number(1, -3999), zero, 7, false},
		{one, zero, 0, false}, {one, one, 0, true}, {one, one, 1, false}, {one, number(1, 2), 1, true}, {one, number(3, 0), 1, false},
		{number(1, -400), one, 200, true}, {number(3, -401), one, 200, false},
		{number(1, -3999), slack, 0, true}, {number(1, -3999), number(1, -3600), 200, true}, {next(number(1, -3999)), number(1, -3600), 200, false},
		{number(1, 12384), full, 0, true}, {number(3, 12384), full, 0, false}, {number(1, 12385), full, 0, false}, {full, full, 0, true}, {full, full, 1, false},
		{number(1, api.MaxExp), number(1, api.MaxExp), 0, true}, {number(1, api.MaxExp), number(1, api.MaxExp), 1, false},
		{number(1, api.MaxExp), number(1, -api.MaxExp), 200, false}, {number(1, -api.MaxExp), number(1, api.MaxExp), 200, true},
	} {
		if is, e := certify.Within(c.x, c.y, c.k); is != c.want || e != api.OK {
			t.Errorf("Within(%s, %s, %d): %v, %v", show(c.x), show(c.y), c.k, is, e)
		}
	}
}

// TestP11_2WithinOfRolled: numbers of any digits, with a bound that differs from x in one of them.
func TestP11_2WithinOfRolled(t *testing.T) {
	d := dice(1121)
	for range 400 {
		m := new(big.Int)
		for range 1 + d.below(api.MaxLimbs-20) {
			m.Lsh(m, 32).Or(m, new(big.Int).SetUint64(d.roll()>>32))
		}
		k := d.below(201)
		y, ok := value{m, d.below(9000) - 6000}.right()
		if !ok {
			t.Fatalf("%d bits are no right number", m.BitLen())
		}
		v := bound(y, k)
		for range 4 {
			step := value{big.NewInt(1 - 2*int64(d.below(2))), v.e + d.below(v.m.BitLen())}
			if x, ok := v.plus(step).right(); ok && v.plus(step).m.Sign() >= 0 {
				wantsVerdict(t, x, y, k)
			}
		}
	}
}
