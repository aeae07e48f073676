package soft_test

import (
	"math"
	"math/big"
	"slices"
	"testing"

	"dioptra/api"
	"dioptra/soft"
)

// rounded is d rounded, which must go well.
func rounded(t *testing.T, d api.Dyadic) api.Bits {
	t.Helper()
	b, _, e := soft.Round(d)
	if e != api.OK {
		t.Fatalf("%s: %v", show(d), e)
	}
	return b
}

// place is where a number stands in the order of all; both noughts stand at 0.
func place(b api.Bits) int64 {
	if b >= api.NegZero {
		return -int64(b - api.NegZero)
	}
	return int64(b)
}

func TestP4_2RoundOfValue(t *testing.T) {
	for _, b := range finites() {
		d, e := soft.Value(b)
		if e != api.OK {
			t.Fatalf("%x: %v", b, e)
		}
		want := b
		if b == api.NegZero {
			want = api.Zero
		}
		wantsRounded(t, d, want, 0)
	}
}

func TestP4_2RoundOfValueInEachPower(t *testing.T) {
	for power := range api.Bits(2047) {
		for _, fraction := range []api.Bits{1, 1<<52 - 1, 1 << 51, 0x5a5a5a5a5a5a5} {
			for _, b := range []api.Bits{power<<52 | fraction, 1<<63 | power<<52 | fraction} {
				d, _ := soft.Value(b)
				wantsRounded(t, d, b, 0)
			}
		}
	}
}

func TestP4_2RoundedTwice(t *testing.T) {
	for _, d := range samples() {
		b := rounded(t, d)
		v, e := soft.Value(b)
		if e != api.OK {
			continue
		}
		again, flags, _ := soft.Round(v)
		if place(again) != place(b) || flags != 0 {
			t.Errorf("%s: %x, and then %x, flags %d", show(d), b, again, flags)
		}
	}
}

func TestP4_3GreaterIsNoLess(t *testing.T) {
	type pair struct {
		size *big.Int
		b    api.Bits
	}
	var list []pair
	for _, d := range samples() {
		list = append(list, pair{inUnits(d), rounded(t, d)})
	}
	slices.SortFunc(list, func(p, q pair) int { return p.size.Cmp(q.size) })
	for i := range len(list) - 1 {
		if p, q := list[i], list[i+1]; place(p.b) > place(q.b) {
			t.Errorf("%x comes ahead of %x", p.b, q.b)
		}
	}
}

func TestP4_3OtherSign(t *testing.T) {
	for _, d := range samples() {
		if len(d.M.Limbs) == 0 {
			continue
		}
		b, f, _ := soft.Round(d)
		d.M.Neg = !d.M.Neg
		wantsRounded(t, d, soft.Minus(b), f)
	}
}

func TestP4_4NoneIsNearer(t *testing.T) {
	others := []api.Bits{api.Zero, 1, leastNormal, api.One, greatest, api.One | api.NegZero, greatest | api.NegZero}
	for _, d := range samples() {
		v, b := inUnits(d), rounded(t, d)
		far := func(b api.Bits) *big.Int {
			off := new(big.Int).Sub(v, unitsOf(b))
			return off.Abs(off)
		}
		if math.IsInf(math.Float64frombits(uint64(b)), 0) {
			continue // see the next test
		}
		here := far(b)
		for _, other := range append(others, b^1, b+1, b-1, b^api.NegZero) {
			if soft.Finite(other) && far(other).Cmp(here) < 0 {
				t.Errorf("%s: %x is nearer than %x", show(d), other, b)
			}
		}
	}
}

// TestP4_4WithoutAnEnd: Inf comes of just those that are as far from the greatest number as from 2^1024, or farther.
func TestP4_4WithoutAnEnd(t *testing.T) {
	border := new(big.Int).Add(unitsOf(greatest), powerOfTwo(most+1024, 0))
	border.Rsh(border, 1)
	for _, d := range samples() {
		v, b := inUnits(d), rounded(t, d)
		want := v.CmpAbs(border) >= 0
		if is := soft.Kind(b) == api.KInf; is != want || is && soft.Sign(b) != d.M.Neg {
			t.Errorf("%s: %x", show(d), b)
		}
	}
}

// TestP4_5NoneBetween: what is greater than a number and less than Up of it is rounded to one of the two.
func TestP4_5NoneBetween(t *testing.T) {
	for _, b := range finites() {
		u := soft.Up(b)
		here, next := unitsOf(b), unitsOf(u)
		if here.Cmp(next) >= 0 {
			t.Errorf("%x is not above %x", u, b)
		}
		for k := range int64(5) {
			between := new(big.Int).Mul(here, big.NewInt(4-k))
			between.Add(between, new(big.Int).Mul(next, big.NewInt(k)))
			d, ok := rightOf(between, -most-2)
			if !ok {
				t.Fatalf("%s is not right", show(d))
			}
			if r := rounded(t, d); place(r) != place(b) && place(r) != place(u) {
				t.Errorf("%x lies between %x and %x", r, b, u)
			}
		}
	}
}

func TestP4_5OneStepInTheOrder(t *testing.T) {
	for _, b := range append(finites(), api.NegInf) {
		if u := soft.Up(b); place(u) != place(b)+1 {
			t.Errorf("%x: %x", b, u)
		}
	}
}

// TestP4_5UpAndDown: Up of a number with the other sign is the way back.
func TestP4_5UpAndDown(t *testing.T) {
	for _, b := range finites() {
		down := soft.Minus(soft.Up(soft.Minus(soft.Up(b))))
		if place(down) != place(b) {
			t.Errorf("%x: %x", b, down)
		}
	}
}
