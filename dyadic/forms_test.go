package dyadic_test

import (
	"fmt"
	"math"
	"math/big"
	"testing"

	"dioptra/api"
	"dioptra/dyadic"
)

func TestP2_1CheckOfRight(t *testing.T) {
	for _, a := range append(samples(), number(1, most), number(-1, -most), number(0, 0)) {
		if e := dyadic.Check(a); e != api.OK {
			t.Errorf("%s: %v", show(a), e)
		}
	}
}

func TestP2_1CheckOfWrong(t *testing.T) {
	for _, a := range wrongs() {
		if e := dyadic.Check(a); e != api.ErrForm {
			t.Errorf("%s: %v", show(a), e)
		}
	}
}

// mades are whole numbers, odd, even and 0.
func mades() []*big.Int {
	list := []*big.Int{new(big.Int), big.NewInt(6), big.NewInt(-40), powerOfTwo(32, 0), powerOfTwo(64, 0), powerOfTwo(maxBits-1, 0), powerOfTwo(maxBits, -2)}
	for i, m := range odds() {
		v := valueOf(api.Dyadic{M: m}).m
		list = append(list, v)
		if even := new(big.Int).Lsh(v, uint(7*i+1)); even.BitLen() <= maxBits {
			list = append(list, even)
		}
	}
	return list
}

func TestP2_1Make(t *testing.T) {
	list := exponents()
	for e := range 40 {
		list = append(list, e-most-20, most+20-e)
	}
	list = append(list, 2*most, 2*most-1, -2*most, -2*most+1, -2*most+16)
	for i, m := range mades() {
		for _, e := range list {
			got, err := dyadic.Make(wholeOf(m), e)
			want, f := value{m, e}.right()
			wants(t, fmt.Sprint("number ", i, " at ", e), got, err, want, f)
		}
	}
}

func TestP2_1MakeAtTheLimits(t *testing.T) {
	highest := powerOfTwo(maxBits-1, 0)
	for i, c := range []struct {
		m    *big.Int
		e    int
		want api.Dyadic
		err  api.Errno
	}{
		{big.NewInt(6), -2, number(3, -1), api.OK},
		{big.NewInt(1), most, number(1, most), api.OK},
		{big.NewInt(2), most, api.Dyadic{}, api.ErrRange},
		{big.NewInt(2), most - 1, number(1, most), api.OK},
		{big.NewInt(1), -most, number(1, -most), api.OK},
		{big.NewInt(1), -most - 1, api.Dyadic{}, api.ErrRange},
		{big.NewInt(-2), -most - 1, number(-1, -most), api.OK},
		{highest, -2*most + 1, number(1, -most), api.OK},
		{highest, -2 * most, api.Dyadic{}, api.ErrRange},
		{highest, 1, number(1, most), api.OK},
		{highest, 2, api.Dyadic{}, api.ErrRange},
		{big.NewInt(0), 5, api.Dyadic{}, api.OK},
		{big.NewInt(0), 2 * most, api.Dyadic{}, api.OK},
		{big.NewInt(0), -2 * most, api.Dyadic{}, api.OK},
		{big.NewInt(0), 2*most + 1, api.Dyadic{}, api.ErrRange},
		{big.NewInt(0), -2*most - 1, api.Dyadic{}, api.ErrRange},
		{big.NewInt(1), 2 * most, api.Dyadic{}, api.ErrRange},
		{highest, -2*most - 1, api.Dyadic{}, api.ErrRange},
		{highest, math.MinInt, api.Dyadic{}, api.ErrRange},
		{highest, math.MaxInt, api.Dyadic{}, api.ErrRange},
		{big.NewInt(0), math.MinInt, api.Dyadic{}, api.ErrRange},
		{big.NewInt(1), math.MaxInt, api.Dyadic{}, api.ErrRange},
	} {
		got, e := dyadic.Make(wholeOf(c.m), c.e)
		wants(t, fmt.Sprint("case ", i, " at ", c.e), got, e, c.want, c.err)
	}
}

func TestP2_1MakeOfWrong(t *testing.T) {
	for _, m := range wrongWholes() {
		for _, e := range []int{0, 1, -most, 2 * most, 2*most + 1, math.MinInt, math.MaxInt} {
			got, err := dyadic.Make(m, e)
			wants(t, fmt.Sprint(show(api.Dyadic{M: m}), " at ", e), got, err, api.Dyadic{}, api.ErrForm)
		}
	}
}

func TestP2_1Top(t *testing.T) {
	for _, a := range samples() {
		v, want := valueOf(a), 0
		if v.m.Sign() != 0 {
			want = v.m.BitLen() + v.e // since m, without its sign, is from 2^(bits-1) on and below 2^bits
		}
		if k := dyadic.Top(a); k != want {
			t.Errorf("%s: %d; wanted %d", show(a), k, want)
		}
	}
	for _, c := range []struct {
		a    api.Dyadic
		want int
	}{
		{number(0, 0), 0}, {number(1, 0), 1}, {number(-1, 0), 1}, {number(1, -1), 0}, {number(3, -1), 1}, {number(-5, -1), 2},
		{number(1, most), most + 1}, {number(1, -most), -most + 1},
	} {
		if k := dyadic.Top(c.a); k != c.want {
			t.Errorf("%v: %d; wanted %d", c.a, k, c.want)
		}
	}
	for _, a := range wrongs() {
		dyadic.Top(a) // it may say anything, but not panic
	}
}
