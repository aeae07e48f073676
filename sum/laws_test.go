package sum_test

import (
	"cmp"
	"math"
	"slices"
	"testing"

	"dioptra/api"
	"dioptra/sum"
)

func TestP5_3NoOrder(t *testing.T) {
	list := pairs()
	for _, a := range all() {
		for _, b := range []api.Bits{api.NaN, api.Inf + 7, minus(api.NaN), api.Inf, api.NegInf} {
			list = append(list, pair{a, b})
		}
	}
	for _, p := range list {
		s, f := sum.Add(p.a, p.b)
		wantsSum(t, p.b, p.a, s, f)
	}
}

// TestP5_3DifferencesTurn: a less b is b less a with the other sign, but for noughts and what is no number.
func TestP5_3DifferencesTurn(t *testing.T) {
	for _, p := range pairs() {
		if s, f := sum.Sub(p.a, p.b); place(s) != 0 {
			wantsDifference(t, p.b, p.a, minus(s), f)
		}
	}
}

// says is the machine's own number by its bits, whatever no number it makes.
func says(f float64) api.Bits {
	if math.IsNaN(f) {
		return api.NaN
	}
	return api.Bits(math.Float64bits(f))
}

func TestP5_4GosOwn(t *testing.T) {
	list := append(pairs(), rolled(3000)...)
	for _, a := range all() {
		for _, b := range all() {
			list = append(list, pair{a, b})
		}
	}
	for _, p := range list {
		if s, _ := sum.Add(p.a, p.b); s != says(float(p.a)+float(p.b)) {
			t.Errorf("%x and %x: %x; wanted %x", p.a, p.b, s, says(float(p.a)+float(p.b)))
		}
		if s, _ := sum.Sub(p.a, p.b); s != says(float(p.a)-float(p.b)) {
			t.Errorf("%x less %x: %x; wanted %x", p.a, p.b, s, says(float(p.a)-float(p.b)))
		}
	}
}

func TestP5_4GosOwnInEachPower(t *testing.T) {
	d := dice(11)
	for power := range api.Bits(2047) {
		a := power<<52 | api.Bits(d.roll())%(1<<52)
		for apart := range min(power+1, 58) {
			b := (power-apart)<<52 | api.Bits(d.roll())%(1<<52)
			s, _ := sum.Add(a, b)
			r, _ := sum.Sub(a, b)
			if s != says(float(a)+float(b)) || r != says(float(a)-float(b)) {
				t.Errorf("%x and %x: %x, %x", a, b, s, r)
			}
		}
	}
}

func TestP5_4GosOwnAll(t *testing.T) {
	d := dice(13)
	for n := range 40 {
		list, total := make([]api.Bits, n), 0.0
		for i := range list {
			list[i] = api.Bits(d.roll())
			total += float(list[i])
		}
		if s, _ := sum.All(list); s != says(total) {
			t.Errorf("%x: %x; wanted %x", list, s, says(total))
		}
	}
}

// near are numbers from half of b on up to twice b, of b's sign.
func near(b api.Bits) []api.Bits {
	var list []api.Bits
	twice, half := 2*float(b), float(b)/2
	for _, f := range []float64{half, math.Nextafter(half, twice), half * 1.25, half * 1.5, half * 1.9, float(b), half * 2.1, half * 3, half * 3.9, math.Nextafter(twice, half), twice} {
		if size := math.Abs(f); size*2 >= math.Abs(float(b)) && size <= math.Abs(twice) && size < math.Inf(1) {
			list = append(list, api.Bits(math.Float64bits(f)))
		}
	}
	return append(list, b)
}

func TestP5_5NearOnesRaiseNothing(t *testing.T) {
	count := 0
	for _, a := range signed(append(edges(), some(200)...)) {
		for _, b := range near(a) {
			for _, p := range []pair{{a, b}, {b, a}} {
				s, f := sum.Sub(p.a, p.b)
				if f != 0 || exactly(p.a, minus(p.b)).Cmp(unitsOf(s)) != 0 {
					t.Errorf("%x less %x: %x, flags %d", p.a, p.b, s, f)
				}
				count++
			}
		}
	}
	if count < 10000 {
		t.Errorf("%d differences", count)
	}
}

// TestP5_5JustBeyond: more than twice as great, and a digit goes lost.
func TestP5_5JustBeyond(t *testing.T) {
	wantsDifference(t, power(1), api.One-1, api.One, api.Inexact)
	wantsDifference(t, power(1)+1, api.One, api.One+2, 0)
	wantsDifference(t, power(1)+1, api.One-1, api.One+2, api.Inexact)
}

func TestP5_6GreaterIsNoLess(t *testing.T) {
	list := numbers()
	for _, b := range signed(edges()) {
		list = append(list, b+1)
	}
	list = slices.DeleteFunc(list, func(b api.Bits) bool { return math.IsNaN(float(b)) })
	slices.SortFunc(list, func(a, b api.Bits) int { return cmp.Compare(place(a), place(b)) })
	for _, third := range numbers() {
		before := int64(math.MinInt64)
		for _, b := range list {
			s, f := sum.Add(b, third)
			if f == api.Invalid {
				continue // no number has no place
			}
			if place(s) < before {
				t.Errorf("%x and %x: %x comes behind a greater one", b, third, s)
			}
			before = place(s)
		}
	}
}
