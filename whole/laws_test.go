package whole_test

import (
	"fmt"
	"math"
	"testing"

	"dioptra/api"
	"dioptra/whole"
)

// sure is the answer of a call that must go well.
func sure(t *testing.T, a api.Whole, e api.Errno) api.Whole {
	t.Helper()
	if e != api.OK {
		t.Fatalf("%v", e)
	}
	return a
}

// thirds are numbers small enough that three of them can be multiplied.
func thirds() []api.Whole {
	d := dice(3)
	list := []api.Whole{whole.Of(0), whole.Of(1), whole.Of(-1), whole.Of(math.MinInt64), whole.Of(math.MaxUint32)}
	for _, n := range []int{1, 2, 2, 3, 5, 40, 169, 170} {
		list = append(list, d.number(n))
	}
	return list
}

// unordered are the sum and the product.
func unordered() []operation {
	return []operation{adding(), multiplying()}
}

func TestP1_3NoOrder(t *testing.T) {
	list := samples()
	for i, a := range list {
		for k, b := range list {
			for _, op := range unordered() {
				x, e := op.call(a, b)
				y, f := op.call(b, a)
				if e != f || !same(x, y) {
					t.Errorf("%s of samples %d and %d", op.name, i, k)
				}
			}
		}
	}
}

// eachThree does something with all threes of a list.
func eachThree(list []api.Whole, do func(name string, a, b, c api.Whole)) {
	for i, a := range list {
		for k, b := range list {
			for m, c := range list {
				do(fmt.Sprint(i, k, m), a, b, c)
			}
		}
	}
}

func TestP1_3NoBrackets(t *testing.T) {
	for _, op := range unordered() {
		do := func(x, y api.Whole) api.Whole {
			z, e := op.call(x, y)
			return sure(t, z, e)
		}
		eachThree(thirds(), func(name string, a, b, c api.Whole) {
			if !same(do(do(a, b), c), do(a, do(b, c))) {
				t.Errorf("%s of %s", op.name, name)
			}
		})
	}
}

func TestP1_3ProductOverSum(t *testing.T) {
	add := func(x, y api.Whole) api.Whole {
		z, e := whole.Add(x, y)
		return sure(t, z, e)
	}
	mul := func(x, y api.Whole) api.Whole {
		z, e := whole.Mul(x, y)
		return sure(t, z, e)
	}
	eachThree(thirds(), func(name string, a, b, c api.Whole) {
		if !same(mul(a, add(b, c)), add(mul(a, b), mul(a, c))) {
			t.Errorf("%s", name)
		}
	})
}

func TestP1_4UpAndDown(t *testing.T) {
	for i, a := range samples() {
		for n := 0; n <= api.MaxShift; n += 1 + n/3 {
			tryUpAndDown(t, i, a, n)
		}
		tryUpAndDown(t, i, a, maxBits-whole.Len(a)) // as far up as it goes
	}
}

func tryUpAndDown(t *testing.T, i int, a api.Whole, n int) {
	t.Helper()
	up, e := whole.Shift(a, n)
	if whole.Len(a) > 0 && whole.Len(a)+n > maxBits {
		wantsError(t, fmt.Sprint("sample ", i, " by ", n), up, e, api.ErrRange)
		return
	}
	down, f := whole.Shift(up, -n)
	if e != api.OK || f != api.OK || !same(down, a) {
		t.Errorf("sample %d by %d: %v, %v, %s", i, n, e, f, show(down))
	}
}

// wantsSmall asks for n, which Go's own reckoning gave.
func wantsSmall(t *testing.T, what string, a api.Whole, e api.Errno, n int64) {
	t.Helper()
	if m, f := whole.Small(a); e != api.OK || f != api.OK || m != n {
		t.Errorf("%s: %d, %v, %v; wanted %d", what, m, e, f, n)
	}
}

// productFits tells whether Go's own product of 64 bits did not wrap round.
func productFits(x, y int64) bool {
	if x == 0 || y == 0 {
		return true
	}
	if x == -1 || y == -1 {
		return x != math.MinInt64 && y != math.MinInt64
	}
	return x*y/y == x
}

func TestP1_5AsGoDoes(t *testing.T) {
	list := smalls()
	for _, x := range list {
		for _, y := range list {
			name := fmt.Sprint(x, " and ", y)
			a, b := whole.Of(x), whole.Of(y)
			if sum := x + y; (x^sum)&(y^sum) >= 0 {
				got, e := whole.Add(a, b)
				wantsSmall(t, "sum of "+name, got, e, sum)
			}
			if rest := x - y; (x^y)&(x^rest) >= 0 {
				got, e := whole.Sub(a, b)
				wantsSmall(t, "difference of "+name, got, e, rest)
			}
			if productFits(x, y) {
				got, e := whole.Mul(a, b)
				wantsSmall(t, "product of "+name, got, e, x*y)
			}
			tryOrder(t, x, y)
		}
	}
}

func tryOrder(t *testing.T, x, y int64) {
	t.Helper()
	want := 0
	if x < y {
		want = -1
	} else if x > y {
		want = 1
	}
	if n, e := whole.Compare(whole.Of(x), whole.Of(y)); n != want || e != api.OK {
		t.Errorf("%d and %d: %d, %v", x, y, n, e)
	}
}

func TestP1_5ShiftsAsGoDoes(t *testing.T) {
	for _, x := range smalls() {
		for n := range 63 {
			name := fmt.Sprint(x, " by ", n)
			if up := x << n; up>>n == x {
				got, e := whole.Shift(whole.Of(x), n)
				wantsSmall(t, name+" up", got, e, up)
			}
			got, e := whole.Shift(whole.Of(x), -n)
			wantsSmall(t, name+" down", got, e, x/(1<<n))
		}
	}
}
