package whole_test

import (
	"math"
	"math/big"
	"testing"

	"dioptra/api"
	"dioptra/whole"
)

func TestP1_1CheckOfRight(t *testing.T) {
	for _, a := range samples() {
		if e := whole.Check(a); e != api.OK {
			t.Errorf("%s: %v", show(a), e)
		}
	}
	zerosBelow := api.Whole{Neg: true, Limbs: []uint32{0, 0, 1}}
	if e := whole.Check(zerosBelow); e != api.OK {
		t.Errorf("only the last limb may not be 0: %v", e)
	}
}

func TestP1_1CheckOfWrong(t *testing.T) {
	for _, a := range wrongs() {
		if e := whole.Check(a); e != api.ErrForm {
			t.Errorf("%s: %v", show(a), e)
		}
	}
}

func TestP1_1Of(t *testing.T) {
	for _, n := range smalls() {
		if a := whole.Of(n); !same(a, numberOf(big.NewInt(n))) {
			t.Errorf("%d: %v", n, a)
		}
	}
	if a := whole.Of(1 << 32); len(a.Limbs) != 2 || a.Limbs[0] != 0 || a.Limbs[1] != 1 {
		t.Errorf("2^32: %v", a)
	}
	if a := whole.Of(0); a.Neg || len(a.Limbs) != 0 {
		t.Errorf("0: %v", a)
	}
}

func TestP1_1SmallOfOf(t *testing.T) {
	for _, n := range smalls() {
		if m, e := whole.Small(whole.Of(n)); m != n || e != api.OK {
			t.Errorf("%d: %d, %v", n, m, e)
		}
	}
}

func TestP1_1SmallAtItsEdges(t *testing.T) {
	least, most := powerOfTwo(63, 0), powerOfTwo(63, -1)
	least.Neg(least)
	if n, e := whole.Small(numberOf(least)); n != math.MinInt64 || e != api.OK {
		t.Errorf("-2^63: %d, %v", n, e)
	}
	if n, e := whole.Small(numberOf(most)); n != math.MaxInt64 || e != api.OK {
		t.Errorf("2^63 - 1: %d, %v", n, e)
	}
	beyond := []*big.Int{new(big.Int).Sub(least, big.NewInt(1)), new(big.Int).Add(most, big.NewInt(1))}
	for _, v := range beyond {
		if n, e := whole.Small(numberOf(v)); n != 0 || e != api.ErrRange {
			t.Errorf("%v: %d, %v", v, n, e)
		}
	}
}

func TestP1_1SmallOfSamples(t *testing.T) {
	for _, a := range samples() {
		v, want := valueOf(a), api.OK
		if !v.IsInt64() {
			v, want = new(big.Int), api.ErrRange
		}
		if n, e := whole.Small(a); n != v.Int64() || e != want {
			t.Errorf("%s: %d, %v", show(a), n, e)
		}
	}
	for _, a := range wrongs() {
		if n, e := whole.Small(a); n != 0 || e != api.ErrForm {
			t.Errorf("%s: %d, %v", show(a), n, e)
		}
	}
}

func TestP1_1Len(t *testing.T) {
	for _, a := range samples() {
		if n := whole.Len(a); n != valueOf(a).BitLen() {
			t.Errorf("%s: %d", show(a), n)
		}
	}
	for n, want := range map[int64]int{0: 0, 1: 1, -1: 1, 255: 8, -256: 9, 1<<32 - 1: 32, 1 << 32: 33, math.MinInt64: 64} {
		if got := whole.Len(whole.Of(n)); got != want {
			t.Errorf("%d: %d", n, got)
		}
	}
	for _, a := range wrongs() {
		whole.Len(a) // it may say anything, but not panic
	}
}
