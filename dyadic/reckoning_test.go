package dyadic_test

import (
	"fmt"
	"math"
	"math/big"
	"testing"

	"dioptra/api"
	"dioptra/dyadic"
)

// operation is a call of two numbers and what it should answer.
type operation struct {
	name  string
	call  func(a, b api.Dyadic) (api.Dyadic, api.Errno)
	exact func(a, b api.Dyadic) (api.Dyadic, api.Errno)
}

func adding() operation {
	return operation{"Add", dyadic.Add, func(a, b api.Dyadic) (api.Dyadic, api.Errno) {
		return exactSum(valueOf(a), valueOf(b))
	}}
}

func subtracting() operation {
	return operation{"Sub", dyadic.Sub, func(a, b api.Dyadic) (api.Dyadic, api.Errno) {
		v := valueOf(b)
		v.m.Neg(v.m)
		return exactSum(valueOf(a), v)
	}}
}

func multiplying() operation {
	return operation{"Mul", dyadic.Mul, func(a, b api.Dyadic) (api.Dyadic, api.Errno) {
		v, w := valueOf(a), valueOf(b)
		return value{v.m.Mul(v.m, w.m), v.e + w.e}.right()
	}}
}

func operations() []operation {
	return []operation{adding(), subtracting(), multiplying()}
}

// exactSum is v plus w: ErrRange also if they, or what they make, are too long with the lesser e.
func exactSum(v, w value) (api.Dyadic, api.Errno) {
	switch {
	case v.m.Sign() == 0:
		return w.right()
	case w.m.Sign() == 0:
		return v.right()
	}
	least := min(v.e, w.e)
	x, y := v.at(least), w.at(least)
	sum := new(big.Int).Add(x, y)
	if max(x.BitLen(), y.BitLen(), sum.BitLen()) > maxBits {
		return api.Dyadic{}, api.ErrRange
	}
	return value{sum, least}.right()
}

func TestP2_2Operations(t *testing.T) {
	list := samples()
	for _, op := range operations() {
		for i, a := range list {
			for k, b := range list {
				if (i+k)%3 != 0 && i > 30 && k > 30 { // a third of them is enough, and three times as fast
					continue
				}
				got, e := op.call(a, b)
				want, f := op.exact(a, b)
				wants(t, fmt.Sprint(op.name, " of samples ", i, " and ", k), got, e, want, f)
			}
		}
	}
}

func TestP2_2OperationsNearby(t *testing.T) {
	list := thirds()
	for _, op := range operations() {
		for i, a := range list {
			for k, b := range list {
				got, e := op.call(a, b)
				want, f := op.exact(a, b)
				wants(t, fmt.Sprint(op.name, " of thirds ", i, " and ", k), got, e, want, f)
			}
		}
	}
}

// wide is the m of n bits that are all 1, times 2^e.
func wide(n uint, e int) api.Dyadic {
	return api.Dyadic{M: wholeOf(powerOfTwo(n, -1)), E: e}
}

func negative(a api.Dyadic) api.Dyadic {
	a.M.Neg = !a.M.Neg
	return a
}

// edge is an operation at a limit.
type edge struct {
	op   operation
	a, b api.Dyadic
	want api.Dyadic
	err  api.Errno
}

func tryEdges(t *testing.T, list []edge) {
	t.Helper()
	for i, c := range list {
		got, e := c.op.call(c.a, c.b)
		wants(t, fmt.Sprint("edge ", i, ": ", c.op.name), got, e, c.want, c.err)
	}
}

func TestP2_2SumsFarApart(t *testing.T) {
	add, sub, none := adding(), subtracting(), api.Dyadic{}
	highest := api.Dyadic{M: wholeOf(powerOfTwo(maxBits-1, 1))}
	full := wide(maxBits, 0)
	tryEdges(t, []edge{
		{add, number(1, maxBits-1), number(1, 0), highest, api.OK},
		{add, number(1, 0), number(1, maxBits-1), highest, api.OK},
		{add, number(1, maxBits), number(1, 0), none, api.ErrRange},
		{add, number(1, 0), number(1, maxBits), none, api.ErrRange},
		{sub, number(1, maxBits), number(1, 0), none, api.ErrRange}, // 2^16384 - 1 would have 512 limbs, but not 2^16384
		{sub, number(1, 0), number(1, maxBits), none, api.ErrRange},
		{sub, number(1, maxBits-1), number(1, 0), wide(maxBits-1, 0), api.OK},
		{add, number(1, -most+maxBits-1), number(1, -most), api.Dyadic{M: highest.M, E: -most}, api.OK},
		{add, number(1, -most+maxBits), number(1, -most), none, api.ErrRange},
		{add, number(1, most), number(1, -most), none, api.ErrRange},
		{sub, number(1, -most), number(1, most), none, api.ErrRange},
		{add, full, number(1, 0), none, api.ErrRange}, // 2^16384 has a right number, but 513 limbs with an E of 0
		{sub, negative(full), number(1, 0), none, api.ErrRange},
		{add, full, full, none, api.ErrRange},
		{sub, full, number(1, 0), wide(maxBits-1, 1), api.OK},
		{add, full, number(-1, 0), wide(maxBits-1, 1), api.OK},
		{sub, full, full, none, api.OK},
		{add, full, number(1, -1), none, api.ErrRange},
		{add, wide(maxBits-1, 0), number(1, -1), wide(maxBits, -1), api.OK},
		{sub, wide(maxBits-1, 1), number(-1, 0), full, api.OK},
	})
}

func TestP2_2SumsBeyondTheExponents(t *testing.T) {
	add, sub, none := adding(), subtracting(), api.Dyadic{}
	tryEdges(t, []edge{
		{add, number(1, most), number(1, most), none, api.ErrRange},
		{sub, number(3, most), number(1, most), none, api.ErrRange},
		{sub, number(-1, most), number(1, most), none, api.ErrRange},
		{add, number(1, most-1), number(1, most-1), number(1, most), api.OK},
		{add, number(1, most-1), number(3, most-1), none, api.ErrRange},
		{add, number(1, most), number(1, most-1), number(3, most-1), api.OK},
		{sub, number(1, most), number(1, most), none, api.OK},
		{add, number(-1, most), number(1, most), none, api.OK},
		{sub, number(1, -most), number(1, -most), none, api.OK},
		{add, number(1, -most), number(1, -most), number(1, -most+1), api.OK},
	})
}

func TestP2_2SumsWithZero(t *testing.T) {
	for i, a := range samples() {
		for _, zero := range []api.Dyadic{{}, {M: api.Whole{Limbs: []uint32{}}}} {
			got, e := dyadic.Add(a, zero)
			wants(t, fmt.Sprint("sample ", i, " plus 0"), got, e, a, api.OK)
			got, e = dyadic.Add(zero, a)
			wants(t, fmt.Sprint("0 plus sample ", i), got, e, a, api.OK)
			got, e = dyadic.Sub(a, zero)
			wants(t, fmt.Sprint("sample ", i, " less 0"), got, e, a, api.OK)
			got, e = dyadic.Sub(zero, a)
			want := a
			if len(a.M.Limbs) > 0 {
				want = negative(a)
			}
			wants(t, fmt.Sprint("0 less sample ", i), got, e, want, api.OK)
			got, e = dyadic.Mul(zero, a)
			wants(t, fmt.Sprint("0 times sample ", i), got, e, api.Dyadic{}, api.OK)
			got, e = dyadic.Mul(a, zero)
			wants(t, fmt.Sprint("sample ", i, " times 0"), got, e, api.Dyadic{}, api.OK)
		}
		got, e := dyadic.Sub(a, a)
		wants(t, fmt.Sprint("sample ", i, " less itself"), got, e, api.Dyadic{}, api.OK)
	}
}

func TestP2_2ProductsAtTheLimits(t *testing.T) {
	mul, none := multiplying(), api.Dyadic{}
	tryEdges(t, []edge{
		{mul, number(1, most/2), number(-1, most/2), number(-1, most), api.OK},
		{mul, number(1, most/2+1), number(1, most/2), none, api.ErrRange},
		{mul, number(-1, -most/2), number(-1, -most/2), number(1, -most), api.OK},
		{mul, number(1, -most/2), number(1, -most/2-1), none, api.ErrRange},
		{mul, number(3, most), number(5, -most), number(15, 0), api.OK},
		{mul, number(1, most), number(1, most), none, api.ErrRange},
		{mul, number(1, -most), number(1, -most), none, api.ErrRange},
		{mul, wide(maxBits, most), number(-1, 0), negative(wide(maxBits, most)), api.OK},
		{mul, wide(maxBits, 0), number(3, 0), none, api.ErrRange},
		{mul, wide(maxBits, 0), wide(maxBits, 0), none, api.ErrRange},
		{mul, wide(maxBits/2, 0), wide(maxBits/2+1, 0), none, api.ErrRange},
	})
	got, e := dyadic.Mul(wide(maxBits/2, 7), wide(maxBits/2, 8))
	square := powerOfTwo(maxBits/2, -1)
	square.Mul(square, square)
	wants(t, "256 limbs squared", got, e, api.Dyadic{M: wholeOf(square), E: 15}, api.OK)
}

func TestP2_2OperationsOnWrong(t *testing.T) {
	for _, op := range operations() {
		for i, bad := range wrongs() {
			for _, good := range []api.Dyadic{number(0, 0), number(-3, 5), number(1, most), wide(maxBits, -most), bad} {
				got, e := op.call(bad, good)
				wants(t, fmt.Sprint(op.name, " of wrong ", i, " first"), got, e, api.Dyadic{}, api.ErrForm)
				got, e = op.call(good, bad)
				wants(t, fmt.Sprint(op.name, " of wrong ", i, " second"), got, e, api.Dyadic{}, api.ErrForm)
			}
		}
	}
}

func TestP2_2Scale(t *testing.T) {
	list := []int{0, 1, -1, 31, 32, 100, most - 1, most, most + 1, -most + 1, -most, -most - 1, 2*most - 1, 2 * most, -2*most + 1, -2 * most}
	for i, a := range samples() {
		for _, n := range list {
			got, e := dyadic.Scale(a, n)
			v := valueOf(a)
			want, f := value{v.m, v.e + n}.right()
			wants(t, fmt.Sprint("sample ", i, " by ", n), got, e, want, f)
		}
	}
}

func TestP2_2ScaleAtTheLimits(t *testing.T) {
	none := api.Dyadic{}
	for _, c := range []struct {
		a    api.Dyadic
		n    int
		want api.Dyadic
		err  api.Errno
	}{
		{number(-1, -most), 2 * most, number(-1, most), api.OK},
		{number(3, most), -2 * most, number(3, -most), api.OK},
		{number(1, -most), 2*most + 1, none, api.ErrRange},
		{number(1, most), -2*most - 1, none, api.ErrRange},
		{number(1, most), 1, none, api.ErrRange},
		{number(1, -most), -1, none, api.ErrRange},
		{number(1, most), 2 * most, none, api.ErrRange},
		{number(1, -most), -2 * most, none, api.ErrRange},
		{wide(maxBits, 0), most, wide(maxBits, most), api.OK},
		{none, 2 * most, none, api.OK},
		{none, -2 * most, none, api.OK},
		{none, 2*most + 1, none, api.ErrRange},
		{none, -2*most - 1, none, api.ErrRange},
	} {
		got, e := dyadic.Scale(c.a, c.n)
		wants(t, fmt.Sprint(show(c.a), " by ", c.n), got, e, c.want, c.err)
	}
}

func TestP2_2ScaleOutOfRange(t *testing.T) {
	for _, n := range []int{2*most + 1, -2*most - 1, math.MaxInt, math.MinInt, math.MinInt + most, math.MaxInt - most} {
		for i, a := range samples() {
			got, e := dyadic.Scale(a, n)
			wants(t, fmt.Sprint("sample ", i, " by ", n), got, e, api.Dyadic{}, api.ErrRange)
		}
		for i, a := range wrongs() {
			got, e := dyadic.Scale(a, n)
			wants(t, fmt.Sprint("wrong ", i, " by ", n), got, e, api.Dyadic{}, api.ErrForm)
		}
	}
	for i, a := range wrongs() {
		for _, n := range []int{0, 1, -1, 2 * most, -2 * most} {
			got, e := dyadic.Scale(a, n)
			wants(t, fmt.Sprint("wrong ", i, " by ", n), got, e, api.Dyadic{}, api.ErrForm)
		}
	}
}

// order is how v stands to w, by their difference.
func order(v, w value) int {
	least := min(v.e, w.e)
	return v.at(least).Cmp(w.at(least))
}

func TestP2_2Compare(t *testing.T) {
	list := append(samples(), thirds()...)
	for i, a := range list {
		for k, b := range list {
			if n, e := dyadic.Compare(a, b); n != order(valueOf(a), valueOf(b)) || e != api.OK {
				t.Errorf("samples %d and %d: %d, %v", i, k, n, e)
			}
		}
	}
}

func TestP2_2CompareOfWrong(t *testing.T) {
	for i, bad := range wrongs() {
		for _, good := range []api.Dyadic{number(0, 0), number(-3, 5), number(1, most), bad} {
			if n, e := dyadic.Compare(bad, good); n != 0 || e != api.ErrForm {
				t.Errorf("wrong %d first: %d, %v", i, n, e)
			}
			if n, e := dyadic.Compare(good, bad); n != 0 || e != api.ErrForm {
				t.Errorf("wrong %d second: %d, %v", i, n, e)
			}
		}
	}
}
