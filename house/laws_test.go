package house_test

import (
	"math"
	"math/big"
	"slices"
	"testing"

	"dioptra/api"
	"dioptra/house"
	"dioptra/vector"
)

// product is a times b in steps of 2^-2148, exactly.
func product(a, b api.Bits) *big.Int {
	return new(big.Int).Mul(units(a), units(b))
}

// small tells whether x is at most a part in 2^k of y, both without their signs.
func small(x, y *big.Int, k uint) bool {
	return new(big.Int).Lsh(x, k).CmpAbs(y) <= 0
}

// square is the exact sum of squares, in steps of 2^-2148.
func square(x []api.Bits) *big.Int {
	total := new(big.Int)
	for _, b := range x {
		total.Add(total, product(b, b))
	}
	return total
}

// vectors are such as are neither very great nor very small: of two edges each, of all lengths, of like sorts, with noughts in front, and with a first number of another sort.
func vectors(d *dice) [][]api.Bits {
	edges := []api.Bits{power(-200), power(-200) + 1, power(-174), power(-1), api.One - 1, api.One, api.One + 1, three, power(26), power(53), power(199), power(200) - 1, api.Zero}
	var l [][]api.Bits
	for _, a := range edges {
		for _, b := range edges {
			l = append(l, []api.Bits{a, b}, []api.Bits{minus(a), b}, []api.Bits{a, minus(b)}, []api.Bits{minus(a), minus(b)}, []api.Bits{a, b, minus(b), a})
		}
	}
	sorts := d.middle()
	for i, pick := range sorts {
		for n := 1; n <= api.MaxLong; n++ {
			l = append(l, list(n, pick))
		}
		for range 60 {
			l = append(l, list(1+d.below(6), pick))
			l = append(l, append(list(d.below(3), d.out(noughts())), list(1+d.below(4), pick)...))
			l = append(l, append(list(1, sorts[(i+d.below(len(sorts)))%len(sorts)]), list(1+d.below(5), pick)...))
		}
	}
	return l
}

// TestP13_3Norm: beta without its sign is what Norm says, and the exact sum of squares but for a part in 2^44 (P9.4).
func TestP13_3Norm(t *testing.T) {
	d := dice(1320)
	for _, x := range vectors(&d) {
		_, _, beta, e := house.Make(x)
		if want, f := vector.Norm(x); beta&^api.NegZero != want || e != api.OK || f != api.OK {
			t.Errorf("Make(%s): beta %x, %v; the norm is %x, %v", show(x), beta, e, want, f)
		}
		should := square(x)
		if lack := new(big.Int).Sub(product(beta, beta), should); !small(lack, should, 44) {
			t.Errorf("Make(%s): beta %x, whose square is another one", show(x), beta)
		}
	}
}

// TestP13_4Tau: 0 just where there is nothing to be mirrored, else from 1 to 2, and what makes v's mirror one: tau times v's square is 2.
func TestP13_4Tau(t *testing.T) {
	d := dice(1321)
	from, to := product(api.One, api.One), product(two, api.One)
	for _, x := range vectors(&d) {
		v, tau, _, e := house.Make(x)
		others := slices.ContainsFunc(x[1:], func(b api.Bits) bool { return float(b) != 0 })
		if !others {
			if tau != api.Zero || e != api.OK {
				t.Errorf("Make(%s): tau %x, %v", show(x), tau, e)
			}
			continue
		}
		exact := product(tau, api.One)
		under, over := new(big.Int).Sub(from, exact), new(big.Int).Sub(exact, to)
		if e != api.OK || under.Sign() > 0 && !small(under, from, 40) || over.Sign() > 0 && !small(over, to, 40) {
			t.Errorf("Make(%s): tau %x, %v, is not from 1 to 2", show(x), tau, e)
		}
		lack := new(big.Int).Mul(units(tau), square(v)) // in steps of 2^-3222
		should := new(big.Int).Lsh(to, 1074)
		if lack.Sub(lack, should); !small(lack, should, 40) {
			t.Errorf("Make(%s): tau %x times the square of %s is not 2", show(x), tau, show(v))
		}
	}
}

// exactly is x less tau times v's product with it times v, reckoned without any rounding, in steps of 2^-4296.
func exactly(x, v []api.Bits, tau api.Bits) []*big.Int {
	w := new(big.Int)
	for i := range x {
		w.Add(w, product(v[i], x[i]))
	}
	w.Mul(w, units(tau))
	var l []*big.Int
	for i := range x {
		less := new(big.Int).Mul(w, units(v[i]))
		l = append(l, new(big.Int).Sub(new(big.Int).Lsh(units(x[i]), 3*1074), less))
	}
	return l
}

// wantsBeta looks after numbers that should be beta, and then noughts, but for a part in 2^40 of beta; beta is of their steps.
func wantsBeta(t *testing.T, x []api.Bits, got []*big.Int, beta *big.Int) {
	t.Helper()
	for j, b := range got {
		lack := new(big.Int).Set(b)
		if j == 0 {
			lack.Sub(lack, beta)
		}
		if !small(lack, beta, 40) {
			t.Errorf("%s, mirrored by its own mirror: number %d", show(x), j)
		}
	}
}

// TestP13_5OwnMirrorExactly: vectors of all lengths, mirrored without any rounding.
func TestP13_5OwnMirrorExactly(t *testing.T) {
	d := dice(1322)
	for _, x := range vectors(&d) {
		v, tau, beta, e := house.Make(x)
		if e != api.OK {
			t.Errorf("Make(%s): %v", show(x), e)
			continue
		}
		wantsBeta(t, x, exactly(x, v, tau), new(big.Int).Lsh(units(beta), 3*1074))
	}
}

// TestP13_5OwnMirror: vectors that may be a matrix's columns, mirrored by Apply, at its top and below a row that stays as it was.
func TestP13_5OwnMirror(t *testing.T) {
	d := dice(1323)
	for _, x := range vectors(&d) {
		if len(x) > api.MaxDim {
			continue
		}
		v, tau, beta, _ := house.Make(x)
		for top := range api.MaxDim - len(x) + 1 {
			m := of(top+len(x), 1, append(ones(top), x...)...)
			got, e := house.Apply(m, top, 0, v, tau)
			if e != api.OK || len(got.Data) != len(m.Data) || !slices.Equal(got.Data[:top], ones(top)) {
				t.Fatalf("%x became %x, %v", m, got, e)
			}
			var l []*big.Int
			for _, b := range got.Data[top:] {
				l = append(l, units(b))
			}
			wantsBeta(t, x, l, units(beta))
		}
	}
}

// TestP13_5SameSquare: all sizes and parts, mirrored by the mirror of one of their own columns, and of other vectors.
func TestP13_5SameSquare(t *testing.T) {
	d := dice(1324)
	sorts := d.middle()
	for _, size := range sizes() {
		for _, pick := range sorts {
			for i := range size[0] {
				m := picked(size[0], size[1], pick)
				k, n := d.below(size[1]+1), 1+d.below(size[0]-i)
				x := list(n, sorts[d.below(len(sorts))])
				if k < m.Cols && d.below(2) == 0 {
					for j := range x {
						x[j] = m.Data[(i+j)*m.Cols+k]
					}
				}
				v, tau, _, _ := house.Make(x)
				got, e := house.Apply(m, i, k, v, tau)
				lack := square(m.Data)
				if lack.Sub(lack, square(got.Data)); e != api.OK || !small(lack, square(m.Data), 36) {
					t.Errorf("%x, mirrored by %x from %d and %d on, became %x, %v, and has another square", m, x, i, k, got, e)
				}
			}
		}
	}
}

// TestP13_5NearExact: a mirrored matrix is, column by column, what comes without any rounding, but for a part in 2^40 of the column's norm.
func TestP13_5NearExact(t *testing.T) {
	d := dice(1325)
	for _, pick := range d.middle() {
		for range 60 {
			n := 1 + d.below(6)
			x, column := list(n, d.near(-30, 60)), list(n, pick)
			v, tau, _, _ := house.Make(x)
			got, e := house.Apply(of(n, 1, column...), 0, 0, v, tau)
			if e != api.OK {
				t.Fatalf("%x by %x: %v", column, v, e)
			}
			norm, _ := vector.Norm(column)
			for j, exact := range exactly(column, v, tau) {
				lack := new(big.Int).Lsh(units(got.Data[j]), 3*1074)
				if lack.Sub(lack, exact); !small(lack, new(big.Int).Lsh(units(norm), 3*1074), 40) {
					t.Errorf("%x by %x and %x: %x", column, v, tau, got.Data)
				}
			}
		}
	}
}

// TestP4Signs: of a vector with all signs turned v and tau are the same, and beta has the other sign.
func TestP4Signs(t *testing.T) {
	d := dice(1326)
	for _, x := range vectors(&d) {
		v, tau, beta, _ := house.Make(x)
		other := slices.Clone(x)
		for i := range other {
			other[i] = minus(other[i])
		}
		wantsMirror(t, other, v, tau, minus(beta))
	}
}

// TestP4Sizes: of a vector times a power of two v and tau are the same, and beta is that times as much.
func TestP4Sizes(t *testing.T) {
	d := dice(1327)
	for _, x := range vectors(&d) {
		v, tau, beta, _ := house.Make(x)
		for _, k := range []int{-700, -1, 1, 53, 700} {
			other := slices.Clone(x)
			for i := range other {
				other[i] = says(math.Ldexp(float(x[i]), k))
			}
			wantsMirror(t, other, v, tau, says(math.Ldexp(float(beta), k)))
		}
	}
}
