package vector_test

import (
	"math"
	"math/big"
	"slices"
	"testing"

	"dioptra/api"
	"dioptra/vector"
)

// gosDot is Dot of the machine's own numbers. The conversions keep it from rounding once for two operations.
func gosDot(x, y []api.Bits) api.Bits {
	s := 0.0
	for i := range x {
		s = float64(s + float64(float(x[i])*float(y[i])))
	}
	return says(s)
}

func gosAxpy(a api.Bits, x, y []api.Bits) []api.Bits {
	list := slices.Clone(x)
	for i := range list {
		list[i] = says(float(y[i]) + float64(float(a)*float(x[i])))
	}
	return list
}

func gosTimes(a api.Bits, x []api.Bits) []api.Bits {
	list := slices.Clone(x)
	for i := range list {
		list[i] = says(float(a) * float(x[i]))
	}
	return list
}

func gosBiggest(x []api.Bits) float64 {
	most := 0.0
	for _, b := range x {
		most = max(most, math.Abs(float(b))) // no number, if one of them is none
	}
	return most
}

func gosNorm(x []api.Bits) api.Bits {
	most := gosBiggest(x)
	if most == 0 || most-most != 0 {
		return says(most)
	}
	k, s := math.Ilogb(most), 0.0
	for _, b := range x {
		t := math.Ldexp(float(b), -k)
		s = float64(s + float64(t*t))
	}
	return says(math.Ldexp(math.Sqrt(s), k))
}

func gosFinite(x []api.Bits) bool {
	return !slices.ContainsFunc(x, func(b api.Bits) bool { return float(b)-float(b) != 0 })
}

// wantsGos holds all that is said of a, x and y against the machine's own numbers.
func wantsGos(t *testing.T, a api.Bits, x, y []api.Bits) {
	t.Helper()
	wantsDot(t, x, y, gosDot(x, y))
	wantsAxpy(t, a, x, y, gosAxpy(a, x, y))
	wantsTimes(t, a, x, gosTimes(a, x))
	wantsBiggest(t, x, says(gosBiggest(x)))
	wantsNorm(t, x, gosNorm(x))
	wantsFinite(t, x, gosFinite(x))
}

// TestP9_3GosOwn: each sort of vectors with one of the same sort, and with one of another.
func TestP9_3GosOwn(t *testing.T) {
	d := dice(93)
	for _, n := range lengths() {
		left, right := d.vectors(n), d.vectors(n)
		for i, x := range left {
			other := right[d.below(len(right))]
			wantsGos(t, d.near(1, -3, 6)[0], x, right[i])
			wantsGos(t, d.finite(1)[0], x, other)
			wantsGos(t, d.mixed(1, all())[0], other, x)
		}
	}
}

func TestP9_3GosOwnOfAllKinds(t *testing.T) {
	d := dice(94)
	for _, a := range all() {
		for _, b := range all() {
			wantsGos(t, a, []api.Bits{b}, []api.Bits{a})
			wantsGos(t, a, []api.Bits{a, b}, []api.Bits{b, api.One})
			wantsGos(t, b, []api.Bits{api.NegZero, a, b}, []api.Bits{a, b, api.NegZero})
		}
		for n := range 5 {
			wantsGos(t, a, d.mixed(n, all()), d.mixed(n, all()))
		}
	}
}

func TestP9_3GosOwnOfAnyBits(t *testing.T) {
	d := dice(95)
	for i := range 2000 {
		n := i % 9
		bits := func() api.Bits { return api.Bits(d.roll()) }
		wantsGos(t, bits(), made(n, bits), made(n, bits))
	}
}

// TestP9_3GosOwnInEachPower: numbers whose powers are a few apart, from the least to the greatest.
func TestP9_3GosOwnInEachPower(t *testing.T) {
	d := dice(96)
	for e := -1022; e <= 1020; e++ {
		x := d.near(4, e, 4)
		wantsNorm(t, x, gosNorm(x))
		x[d.below(4)] = d.tiny(1)[0]
		wantsGos(t, d.near(1, -e/2, 3)[0], x, d.near(4, max(-1022, min(-e, 1020)), 4))
	}
}

// squares is the exact sum of the squares of finite numbers.
func squares(x ...api.Bits) *big.Int {
	total := new(big.Int)
	for _, b := range x {
		v := unitsOf(b)
		total.Add(total, v.Mul(v, v))
	}
	return total
}

// wantsRight looks after the exact square of a norm.
func wantsRight(t *testing.T, x []api.Bits) {
	t.Helper()
	n, err := vector.Norm(x)
	if err != api.OK || float(n)-float(n) != 0 || n >= api.NegZero {
		t.Fatalf("norm of %x: %x, %v", x, n, err)
	}
	should := squares(x...)
	lack := new(big.Int).Sub(squares(n), should)
	if lack.Abs(lack); lack.Lsh(lack, 44).Cmp(should) > 0 {
		t.Errorf("norm of %x: %x, more than a part in 2^44 off", x, n)
	}
}

// TestP9_4Right: no number is so great that the norm would be 2^1024 or more, and none but noughts is below 2^-1022.
func TestP9_4Right(t *testing.T) {
	d := dice(97)
	for _, n := range lengths() {
		for _, x := range [][]api.Bits{
			d.near(n, 0, 1), d.near(n, -2, 4), d.near(n, -40, 80), d.near(n, -500, 1000), d.near(n, 900, 100), d.near(n, 1000, 20),
			d.near(n, -1000, 100), d.near(n, -1022, 3), d.near(n, -1022, 2042), made(n, func() api.Bits { return power(d.below(900)) | d.sign() }),
		} {
			wantsRight(t, x)
			if n > 0 {
				x[d.below(n)] = d.sign()
				wantsRight(t, x)
			}
		}
	}
}

// TestP9_4RightWhereRoundingsAddUp: the same number again and again, and such as get lost behind the first.
func TestP9_4RightWhereRoundingsAddUp(t *testing.T) {
	d := dice(98)
	for range 400 {
		x := slices.Repeat(d.near(1, -900, 1800), 64)
		wantsRight(t, x)
		for _, apart := range []int{25, 26, 27, 28} {
			e := int(x[0]&^api.NegZero>>52) - 1023
			wantsRight(t, append(x[:1:1], slices.Repeat(d.near(1, e-apart, 1), 63)...))
		}
	}
}

// turned is x with other signs.
func (d *dice) turned(x []api.Bits) []api.Bits {
	list := slices.Clone(x)
	for i := range list {
		list[i] ^= d.sign()
	}
	return list
}

func TestP9_5NoSigns(t *testing.T) {
	d := dice(99)
	for _, n := range lengths() {
		for _, x := range append(d.vectors(n), d.mixed(n, all())) {
			norm, _ := vector.Norm(x)
			biggest := vector.Biggest(x)
			negative, positive := slices.Clone(x), slices.Clone(x)
			for i := range x {
				negative[i] |= api.NegZero
				positive[i] &^= api.NegZero
			}
			for _, other := range [][]api.Bits{negative, positive, d.turned(x), d.turned(x)} {
				wantsNorm(t, other, norm)
				wantsBiggest(t, other, biggest)
			}
		}
	}
}

// twoTimes is x times 2^e: false, if one of them is too great or too small for it.
func twoTimes(x []api.Bits, e int) ([]api.Bits, bool) {
	list := slices.Clone(x)
	for i, b := range x {
		f := math.Ldexp(float(b), e)
		if f-f != 0 || math.Ldexp(f, -e) != float(b) {
			return nil, false
		}
		list[i] = says(f)
	}
	return list, true
}

func TestP9_5PowersOfTwo(t *testing.T) {
	d := dice(100)
	done := 0
	for _, n := range lengths() {
		for _, x := range d.vectors(n) {
			norm, _ := vector.Norm(x)
			if norm < leastNormal || norm == api.Inf {
				continue // too small or too great already
			}
			for _, e := range []int{-2000, -1074, -1000, -500, -60, -3, -1, 0, 1, 2, 53, 400, 1000, 1074, 2000, d.below(2000) - 1000} {
				y, fits := twoTimes(append(slices.Clone(x), norm), e)
				if fits {
					wantsNorm(t, y[:n], y[n])
					done++
				}
			}
		}
	}
	if done < 2000 {
		t.Errorf("%d vectors were taken times a power of two", done)
	}
}

// TestP9_5PowersOfTwoFromEndToEnd: the same three numbers from the least to the greatest powers.
func TestP9_5PowersOfTwoFromEndToEnd(t *testing.T) {
	x := []api.Bits{three, minus(api.One + 1), root2}
	norm, _ := vector.Norm(x)
	done := 0
	for e := -1100; e < 1100; e++ {
		if y, fits := twoTimes(append(slices.Clone(x), norm), e); fits {
			wantsNorm(t, y[:3], y[3])
			done++
		}
	}
	if done != 1022+1+1022 { // from where the least one is normal to where the norm is finite
		t.Errorf("%d powers of two", done)
	}
}
