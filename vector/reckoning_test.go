package vector_test

import (
	"slices"
	"testing"

	"dioptra/api"
)

// TestP9_1InOrder: sums that another order, or one rounding for two, would make another number.
func TestP9_1InOrder(t *testing.T) {
	half := power(-53) // of the step of numbers from One on
	one := ones(3)
	wantsDot(t, []api.Bits{api.One, half, half}, one, api.One)
	wantsDot(t, []api.Bits{half, half, api.One}, one, api.One+1)
	wantsDot(t, []api.Bits{half, api.One, half}, one, api.One)
	wantsDot(t, []api.Bits{greatest, greatest, minus(greatest)}, one, api.Inf)
	wantsDot(t, []api.Bits{greatest, minus(greatest), greatest}, one, greatest)
	// The square of 1 + 2^-52 is rounded to 1 + 2^-51 ahead of the sum, and so nothing is left of it.
	wantsDot(t, []api.Bits{api.One + 2, api.One + 1}, []api.Bits{minus(api.One), api.One + 1}, api.Zero)
	wantsDot(t, []api.Bits{three, four}, []api.Bits{four, minus(three)}, api.Zero)
	wantsDot(t, []api.Bits{three, four}, []api.Bits{three, four}, 0x4039000000000000)
}

func TestP9_1Each(t *testing.T) {
	wantsAxpy(t, two, []api.Bits{api.One, minus(api.One), three}, []api.Bits{three, three, minus(two)}, []api.Bits{five, api.One, four})
	wantsAxpy(t, api.One+1, []api.Bits{api.One + 1}, []api.Bits{minus(api.One + 2)}, []api.Bits{api.Zero}) // two roundings
	wantsAxpy(t, power(-1), []api.Bits{least, 3, least}, []api.Bits{least, least, minus(least)}, []api.Bits{1, 3, minus(1)})
	wantsAxpy(t, two, []api.Bits{power(1023), greatest}, []api.Bits{minus(power(1023)), minus(greatest)}, []api.Bits{api.Inf, api.Inf})
	wantsTimes(t, power(-1), []api.Bits{leastNormal, least, 3, minus(5), four}, []api.Bits{leastNormal / 2, 0, 2, minus(2), two})
	wantsTimes(t, power(-1074), []api.Bits{api.One, power(1023), power(-1), minus(power(-1)), three}, []api.Bits{least, power(-51), api.Zero, api.NegZero, 3})
	wantsTimes(t, root2, []api.Bits{root2, minus(root2), power(1023)}, []api.Bits{two + 1, minus(two + 1), power(1023) + root2 - api.One})
}

func TestP9_2NormOfFew(t *testing.T) {
	for _, c := range []struct {
		x    []api.Bits
		want api.Bits
	}{
		{[]api.Bits{three, four}, five},
		{[]api.Bits{minus(four), api.NegZero, three}, five},
		{[]api.Bits{api.One, api.One}, root2},
		{[]api.Bits{two, api.One, minus(two)}, three},
		{ones(4), two},
		{ones(64), power(3)},
	} {
		wantsNorm(t, c.x, c.want)
	}
}

// scaled are normal numbers times 2^e, which must be normal again.
func scaled(x []api.Bits, e int) []api.Bits {
	list := slices.Clone(x)
	for i := range list {
		list[i] += api.Bits(e) << 52
	}
	return list
}

// TestP9_2NormOfFarSquares: they are too great or too small by themselves, and yet the norm is a number.
func TestP9_2NormOfFarSquares(t *testing.T) {
	for _, e := range []int{-1022, -1000, -700, -538, -537, -512, 511, 512, 700, 1000, 1021} {
		wantsNorm(t, scaled([]api.Bits{three, four}, e), five+api.Bits(e)<<52)
		wantsNorm(t, scaled([]api.Bits{minus(api.One), api.One}, e), root2+api.Bits(e)<<52)
	}
	wantsNorm(t, []api.Bits{3, 4}, 5)
	wantsNorm(t, []api.Bits{least, least}, least) // the root of 2, rounded
	wantsNorm(t, []api.Bits{least, minus(least), least}, 2)
	wantsNorm(t, []api.Bits{leastNormal - 1, 1}, leastNormal-1)
	wantsNorm(t, []api.Bits{3 << 50, minus(4 << 50)}, 5<<50)
}

func TestP9_2NormAtTheEnd(t *testing.T) {
	wantsNorm(t, []api.Bits{power(1023), power(1023)}, power(1023)+root2-api.One)
	wantsNorm(t, []api.Bits{power(1023), power(1023), power(1023), power(1023)}, api.Inf)
	wantsNorm(t, []api.Bits{greatest, greatest}, api.Inf)
	wantsNorm(t, []api.Bits{minus(greatest)}, greatest)
	wantsNorm(t, []api.Bits{greatest, power(996)}, greatest)
	wantsNorm(t, []api.Bits{power(1022), power(1022), power(1022), minus(power(1022))}, power(1023))
}

func TestP9_2NormOfUnlikeSizes(t *testing.T) {
	for _, b := range []api.Bits{api.One, three, power(600), power(1000), greatest, power(-900)} {
		for _, small := range []api.Bits{least, leastNormal - 1, leastNormal, power(-1000)} {
			wantsNorm(t, []api.Bits{b, small}, b)
			wantsNorm(t, []api.Bits{minus(small), minus(b), api.NegZero, small}, b)
		}
	}
	wantsNorm(t, []api.Bits{power(27), api.One}, power(27)) // 1 and 2^-54: nothing is left of it
	wantsNorm(t, []api.Bits{power(26), api.One}, power(26)) // 1 and 2^-52: a step, and half of it of the root
	wantsNorm(t, []api.Bits{power(25), api.One}, power(25)+2)
}

// TestP9_2NormInOrder: squares of a bit more than half of One's step count for a whole step each behind One, and for what they are ahead of it.
func TestP9_2NormInOrder(t *testing.T) {
	small := slices.Repeat([]api.Bits{power(-27) + 1<<51}, 63) // their squares are 9 times 2^-56
	wantsNorm(t, append(slices.Clone(small), api.One), api.One+17)
	wantsNorm(t, append([]api.Bits{api.One}, small...), api.One+31)
}

// TestP9_2NormOfOne: of one number it is that number, without its sign.
func TestP9_2NormOfOne(t *testing.T) {
	for _, b := range finites() {
		for _, x := range [][]api.Bits{{b}, {b, api.NegZero}, {api.Zero, b, api.Zero}} {
			wantsNorm(t, x, b&^api.NegZero)
			wantsBiggest(t, x, b&^api.NegZero)
		}
	}
	d := dice(92)
	for _, b := range append(d.finite(2000), d.tiny(500)...) {
		wantsNorm(t, []api.Bits{b}, b&^api.NegZero)
	}
}
