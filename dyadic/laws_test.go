package dyadic_test

import (
	"fmt"
	"math/big"
	"slices"
	"testing"

	"dioptra/api"
	"dioptra/dyadic"
)

// sure is an operation that must go well.
func sure(t *testing.T, op operation) func(a, b api.Dyadic) api.Dyadic {
	return func(a, b api.Dyadic) api.Dyadic {
		t.Helper()
		c, e := op.call(a, b)
		if e != api.OK {
			t.Fatalf("%s of %s and %s: %v", op.name, show(a), show(b), e)
		}
		return c
	}
}

// eachPair does something with all pairs of a list.
func eachPair(list []api.Dyadic, do func(name string, a, b api.Dyadic)) {
	for i, a := range list {
		for k, b := range list {
			do(fmt.Sprint(i, " and ", k), a, b)
		}
	}
}

// eachThree does something with all threes of a list.
func eachThree(list []api.Dyadic, do func(name string, a, b, c api.Dyadic)) {
	eachPair(list, func(name string, a, b api.Dyadic) {
		for m, c := range list {
			do(fmt.Sprint(name, " and ", m), a, b, c)
		}
	})
}

func TestP2_3OneNumberForEachValue(t *testing.T) {
	for i, a := range samples() {
		v := valueOf(a)
		for k := 0; k+v.m.BitLen() <= maxBits; k = 2*k + 1 {
			more := new(big.Int).Lsh(v.m, uint(k))
			got, e := dyadic.Make(wholeOf(more), v.e-k)
			wants(t, fmt.Sprint("sample ", i, " written with 2^-", k), got, e, a, api.OK)
		}
	}
}

func TestP2_3NoTwoAreAlike(t *testing.T) {
	eachPair(samples(), func(name string, a, b api.Dyadic) {
		if n, e := dyadic.Compare(a, b); e != api.OK || (n == 0) != same(a, b) {
			t.Errorf("samples %s: %d, %v", name, n, e)
		}
	})
}

func TestP2_3AnswersAreRight(t *testing.T) {
	eachPair(append(samples()[:60], thirds()...), func(name string, a, b api.Dyadic) {
		for _, op := range operations() {
			if got, _ := op.call(a, b); dyadic.Check(got) != api.OK {
				t.Errorf("%s of samples %s: %s is not right", op.name, name, show(got))
			}
		}
	})
}

func TestP2_4NoOrder(t *testing.T) {
	eachPair(append(samples()[:120], thirds()...), func(name string, a, b api.Dyadic) {
		for _, op := range []operation{adding(), multiplying()} {
			x, e := op.call(a, b)
			y, f := op.call(b, a)
			wants(t, fmt.Sprint(op.name, " of samples ", name), x, e, y, f)
		}
	})
}

func TestP2_4NoBrackets(t *testing.T) {
	for _, op := range []operation{adding(), multiplying()} {
		do := sure(t, op)
		eachThree(thirds(), func(name string, a, b, c api.Dyadic) {
			if !same(do(do(a, b), c), do(a, do(b, c))) {
				t.Errorf("%s of %s", op.name, name)
			}
		})
	}
}

func TestP2_4ProductOverSum(t *testing.T) {
	add, mul := sure(t, adding()), sure(t, multiplying())
	eachThree(thirds(), func(name string, a, b, c api.Dyadic) {
		if !same(mul(a, add(b, c)), add(mul(a, b), mul(a, c))) {
			t.Errorf("%s", name)
		}
	})
}

func TestP2_4TakenOffAndAddedAgain(t *testing.T) {
	add, sub := sure(t, adding()), sure(t, subtracting())
	eachPair(thirds(), func(name string, a, b api.Dyadic) {
		if !same(add(sub(a, b), b), a) {
			t.Errorf("%s", name)
		}
	})
	eachPair(samples(), func(name string, a, b api.Dyadic) {
		rest, e := dyadic.Sub(a, b)
		if e != api.OK {
			return
		}
		if again, e := dyadic.Add(rest, b); e == api.OK && !same(again, a) {
			t.Errorf("samples %s: %s", name, show(again))
		}
	})
}

func TestP2_5CompareIsTheSignOfTheDifference(t *testing.T) {
	eachPair(append(samples(), thirds()...), func(name string, a, b api.Dyadic) {
		rest, e := dyadic.Sub(a, b)
		if e != api.OK {
			return
		}
		n, e := dyadic.Compare(a, b)
		if m, f := dyadic.Compare(rest, api.Dyadic{}); e != api.OK || f != api.OK || n != m || n != valueOf(rest).m.Sign() {
			t.Errorf("samples %s: %d, and the difference %d", name, n, m)
		}
	})
}

func TestP2_5CompareIsAnOrder(t *testing.T) {
	list := append(samples(), thirds()...)
	slices.SortFunc(list, func(a, b api.Dyadic) int { return order(valueOf(a), valueOf(b)) })
	for i := range list {
		for k := range list[i:] {
			n, e := dyadic.Compare(list[i], list[i+k])
			m, f := dyadic.Compare(list[i+k], list[i])
			if e != api.OK || f != api.OK || n > 0 || n != -m {
				t.Errorf("%d and %d in order: %d, and turned round %d", i, i+k, n, m)
			}
		}
	}
}

// TestP2_5CompareBeyondTheRangeOfSums: differences that have no right number are ordered all the same.
func TestP2_5CompareBeyondTheRangeOfSums(t *testing.T) {
	list := []api.Dyadic{ // from the least on
		number(-3, most), number(-1, most), number(-1, 0), number(-3, -most), number(-1, -most), number(0, 0),
		number(1, -most), number(3, -most), wide(maxBits, -most), number(1, 0), number(1, 1), wide(maxBits, 0), number(1, most), wide(maxBits, 1), number(3, most), wide(maxBits, most),
	}
	for i, a := range list {
		for k, b := range list {
			want := 0
			if i < k {
				want = -1
			} else if i > k {
				want = 1
			}
			if n, e := dyadic.Compare(a, b); n != want || e != api.OK {
				t.Errorf("%d and %d: %d, %v", i, k, n, e)
			}
		}
	}
}
