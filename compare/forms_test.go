package compare_test

import (
	"testing"

	"dioptra/api"
	"dioptra/compare"
)

// wantsSide looks after all that is said of the order of a and b, which are ordered.
func wantsSide(t *testing.T, a, b api.Bits, want int) {
	t.Helper()
	if side, ok := compare.Order(a, b); side != want || !ok {
		t.Errorf("order of %x and %x: %d, %v; wanted %d", a, b, side, ok, want)
	}
	if less := compare.Less(a, b); less != (want < 0) {
		t.Errorf("%x is less than %x: %v", a, b, less)
	}
	if equal := compare.Equal(a, b); equal != (want == 0) {
		t.Errorf("%x is as much as %x: %v", a, b, equal)
	}
	greater := a
	if want < 0 {
		greater = b
	}
	wantsMax(t, a, b, greater)
}

func wantsMax(t *testing.T, a, b, want api.Bits) {
	t.Helper()
	if got := compare.Max(a, b); got != want {
		t.Errorf("greater of %x and %x: %x; wanted %x", a, b, got, want)
	}
}

// wantsNoOrder looks after all that is said of a and b, of which one is no number.
func wantsNoOrder(t *testing.T, a, b api.Bits) {
	t.Helper()
	if side, ok := compare.Order(a, b); side != 0 || ok {
		t.Errorf("order of %x and %x: %d, %v", a, b, side, ok)
	}
	if compare.Less(a, b) || compare.Equal(a, b) {
		t.Errorf("%x is less than %x, or as much", a, b)
	}
	wantsMax(t, a, b, api.NaN)
}

func TestP8_1InARow(t *testing.T) {
	row := []api.Bits{api.NegInf, minus(greatest), minus(greatest - 1), minus(power(1)), minus(api.One + 1), minus(api.One), minus(api.One - 1), minus(leastNormal + 1), minus(leastNormal), minus(leastNormal - 1), minus(2), minus(least)}
	for i := range row {
		wantsSide(t, row[i], api.Zero, -1)
		wantsSide(t, api.NegZero, row[i], 1)
	}
	half := len(row)
	row = append(row, api.Zero)
	for i := range half {
		row = append(row, minus(row[half-1-i]))
	}
	for i, a := range row {
		for k, b := range row {
			want := 0
			switch {
			case i < k:
				want = -1
			case i > k:
				want = 1
			}
			wantsSide(t, a, b, want)
		}
	}
}

// TestP8_1Noughts: they are as much, and Max hands on the first one, with its sign.
func TestP8_1Noughts(t *testing.T) {
	for _, a := range noughts() {
		for _, b := range noughts() {
			wantsSide(t, a, b, 0)
		}
	}
	wantsMax(t, api.NegZero, api.Zero, api.NegZero)
	wantsMax(t, api.Zero, api.NegZero, api.Zero)
	for _, a := range noughts() {
		for _, b := range sizes() {
			wantsSide(t, a, b, -1)
			wantsSide(t, a, minus(b), 1)
		}
	}
}

func TestP8_1WithoutAnEnd(t *testing.T) {
	wantsSide(t, api.Inf, api.Inf, 0)
	wantsSide(t, api.NegInf, api.NegInf, 0)
	wantsSide(t, api.NegInf, api.Inf, -1)
	for _, b := range finites() {
		wantsSide(t, b, api.Inf, -1)
		wantsSide(t, b, api.NegInf, 1)
	}
}

func TestP8_1NoNumber(t *testing.T) {
	for _, none := range noNumbers() {
		for _, b := range all() {
			wantsNoOrder(t, none, b)
			wantsNoOrder(t, b, none)
		}
		wantsNoOrder(t, none, none)
	}
}

// TestP8_1ByValues: the order is that of the exact values.
func TestP8_1ByValues(t *testing.T) {
	list := finites()
	for i, a := range list {
		b := list[(i*31+7)%len(list)]
		wantsSide(t, a, b, unitsOf(a).Cmp(unitsOf(b)))
		wantsSide(t, a, a, 0)
	}
}

func TestP8_1Neighbours(t *testing.T) {
	for _, b := range sizes() {
		wantsSide(t, b, b+1, -1)
		wantsSide(t, b+1, b, 1)
		wantsSide(t, minus(b), minus(b+1), 1)
		wantsSide(t, minus(b+1), minus(b), -1)
		wantsSide(t, minus(b), b, -1)
		wantsSide(t, b, minus(b), 1)
	}
}

// TestP8_1Abs: just the sign is another one, even of what is no number.
func TestP8_1Abs(t *testing.T) {
	for _, b := range all() {
		if got := compare.Abs(b); got != b<<1>>1 {
			t.Errorf("%x without its sign: %x", b, got)
		}
	}
	for b, want := range map[api.Bits]api.Bits{
		api.Zero: api.Zero, api.NegZero: api.Zero, api.One: api.One, minus(api.One): api.One, api.Inf: api.Inf, api.NegInf: api.Inf,
		minus(least): least, minus(greatest): greatest, api.NaN: api.NaN, minus(api.NaN): api.NaN, api.NegInf + 1: api.Inf + 1,
	} {
		if got := compare.Abs(b); got != want {
			t.Errorf("%x without its sign: %x; wanted %x", b, got, want)
		}
	}
}
