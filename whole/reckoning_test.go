package whole_test

import (
	"fmt"
	"math"
	"math/big"
	"slices"
	"testing"

	"dioptra/api"
	"dioptra/whole"
)

// operation is a call of two numbers and what it should give.
type operation struct {
	name  string
	call  func(a, b api.Whole) (api.Whole, api.Errno)
	exact func(z, x, y *big.Int) *big.Int
}

func adding() operation      { return operation{"Add", whole.Add, (*big.Int).Add} }
func subtracting() operation { return operation{"Sub", whole.Sub, (*big.Int).Sub} }
func multiplying() operation { return operation{"Mul", whole.Mul, (*big.Int).Mul} }

func operations() []operation {
	return []operation{adding(), subtracting(), multiplying()}
}

func TestP1_2Operations(t *testing.T) {
	list := samples()
	for _, op := range operations() {
		for i, a := range list {
			for k, b := range list {
				got, e := op.call(a, b)
				want := op.exact(new(big.Int), valueOf(a), valueOf(b))
				wants(t, fmt.Sprint(op.name, " of samples ", i, " and ", k), got, e, want)
			}
		}
	}
}

// TestP1_2OperationsAtTheLimit: the last answers that fit, and the first that do not.
func TestP1_2OperationsAtTheLimit(t *testing.T) {
	most := numberOf(powerOfTwo(maxBits, -1))
	least := api.Whole{Neg: true, Limbs: most.Limbs}
	half := numberOf(powerOfTwo(maxBits/2, 0))
	underHalf := numberOf(powerOfTwo(maxBits/2-1, 0))
	one, none := whole.Of(1), whole.Of(0)
	for _, c := range []struct {
		op   operation
		a, b api.Whole
		want api.Errno
	}{
		{adding(), most, none, api.OK},
		{adding(), most, one, api.ErrRange},
		{adding(), most, least, api.OK},
		{adding(), most, most, api.ErrRange},
		{adding(), least, one, api.OK},
		{adding(), least, whole.Of(-1), api.ErrRange},
		{subtracting(), least, one, api.ErrRange},
		{subtracting(), most, one, api.OK},
		{subtracting(), most, least, api.ErrRange},
		{subtracting(), most, most, api.OK},
		{subtracting(), none, most, api.OK},
		{multiplying(), half, underHalf, api.OK},
		{multiplying(), half, half, api.ErrRange},
		{multiplying(), most, one, api.OK},
		{multiplying(), most, whole.Of(2), api.ErrRange},
		{multiplying(), most, none, api.OK},
		{multiplying(), none, least, api.OK},
		{multiplying(), most, least, api.ErrRange},
	} {
		got, e := c.op.call(c.a, c.b)
		if e != c.want {
			t.Errorf("%s of %s and %s: %v; wanted %v", c.op.name, show(c.a), show(c.b), e, c.want)
		}
		wants(t, c.op.name, got, e, c.op.exact(new(big.Int), valueOf(c.a), valueOf(c.b)))
	}
}

func TestP1_2OperationsOnWrong(t *testing.T) {
	most := numberOf(powerOfTwo(maxBits, -1))
	for _, op := range operations() {
		for _, bad := range wrongs() {
			for _, good := range []api.Whole{whole.Of(0), whole.Of(-3), most, bad} {
				got, e := op.call(bad, good)
				wantsError(t, op.name, got, e, api.ErrForm)
				got, e = op.call(good, bad)
				wantsError(t, op.name, got, e, api.ErrForm)
			}
		}
	}
}

// shifts are those that a test tries on every sample.
func shifts() []int {
	list := []int{0, 1, 31, 32, 33, 63, 64, 65, 1000, api.MaxShift/2 - 1, api.MaxShift / 2, api.MaxShift - 32, api.MaxShift - 1, api.MaxShift}
	for _, n := range slices.Clone(list) {
		list = append(list, -n)
	}
	return list
}

// exactShift is v times 2^n, cut towards 0.
func exactShift(v *big.Int, n int) *big.Int {
	if n >= 0 {
		return new(big.Int).Lsh(v, uint(n))
	}
	return new(big.Int).Quo(v, powerOfTwo(uint(-n), 0))
}

func TestP1_2Shift(t *testing.T) {
	for i, a := range samples() {
		for _, n := range shifts() {
			got, e := whole.Shift(a, n)
			wants(t, fmt.Sprint("sample ", i, " by ", n), got, e, exactShift(valueOf(a), n))
		}
	}
	for _, c := range [][3]int64{{5, -1, 2}, {-5, -1, -2}, {-5, -2, -1}, {-5, -3, 0}, {5, 3, 40}, {-1, -api.MaxShift, 0}, {0, api.MaxShift, 0}, {0, -api.MaxShift, 0}} {
		got, e := whole.Shift(whole.Of(c[0]), int(c[1]))
		wants(t, fmt.Sprint(c), got, e, big.NewInt(c[2]))
	}
}

func TestP1_2ShiftAtTheLimit(t *testing.T) {
	got, e := whole.Shift(whole.Of(-1), api.MaxShift-1)
	want := powerOfTwo(api.MaxShift-1, 0)
	if wants(t, "-1 up to the last bit", got, e, want.Neg(want)); len(got.Limbs) != api.MaxLimbs {
		t.Errorf("%d limbs", len(got.Limbs))
	}
	got, e = whole.Shift(whole.Of(1), api.MaxShift)
	wantsError(t, "1 beyond the last bit", got, e, api.ErrRange)
	got, e = whole.Shift(numberOf(powerOfTwo(maxBits-1, 0)), -(api.MaxShift - 1))
	wants(t, "the last bit down to 1", got, e, big.NewInt(1))
	got, e = whole.Shift(numberOf(powerOfTwo(maxBits, -1)), -api.MaxShift)
	wants(t, "all bits down", got, e, new(big.Int))
}

func TestP1_2ShiftOutOfRange(t *testing.T) {
	for _, n := range []int{api.MaxShift + 1, -api.MaxShift - 1, math.MaxInt, math.MinInt, math.MinInt + 1, math.MaxInt32, math.MinInt32} {
		for _, a := range samples() {
			got, e := whole.Shift(a, n)
			wantsError(t, fmt.Sprint("by ", n), got, e, api.ErrRange)
		}
	}
}

func TestP1_2ShiftOfWrong(t *testing.T) {
	for _, a := range wrongs() {
		for _, n := range []int{0, 1, -1, -api.MaxShift, api.MaxShift, api.MaxShift + 1, -api.MaxShift - 1, math.MinInt, math.MaxInt} {
			got, e := whole.Shift(a, n)
			wantsError(t, fmt.Sprint("by ", n), got, e, api.ErrForm)
		}
	}
}

func TestP1_2Compare(t *testing.T) {
	list := samples()
	for i, a := range list {
		for k, b := range list {
			if n, e := whole.Compare(a, b); n != valueOf(a).Cmp(valueOf(b)) || e != api.OK {
				t.Errorf("samples %d and %d: %d, %v", i, k, n, e)
			}
		}
	}
	for _, bad := range wrongs() {
		for _, good := range []api.Whole{whole.Of(0), whole.Of(-3), list[len(list)-1], bad} {
			if n, e := whole.Compare(bad, good); n != 0 || e != api.ErrForm {
				t.Errorf("%s first: %d, %v", show(bad), n, e)
			}
			if n, e := whole.Compare(good, bad); n != 0 || e != api.ErrForm {
				t.Errorf("%s second: %d, %v", show(bad), n, e)
			}
		}
	}
}
