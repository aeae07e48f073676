package house_test

import (
	"fmt"
	"math"
	"slices"
	"testing"

	"dioptra/api"
	"dioptra/house"
)

// TestP13_1Lengths: of no numbers there is no mirror, nor of more than MaxLong, whatever they are.
func TestP13_1Lengths(t *testing.T) {
	wantsNoMirror(t, nil, api.ErrShape)
	wantsNoMirror(t, []api.Bits{}, api.ErrShape)
	wantsNoMirror(t, ones(3)[:0], api.ErrShape)
	d := dice(1301)
	for n := 1; n <= api.MaxLong; n++ {
		if v, _, _, e := house.Make(list(n, d.near(-3, 6))); len(v) != n || e != api.OK {
			t.Errorf("Make of %d numbers: %d, %v", n, len(v), e)
		}
	}
	for _, n := range []int{api.MaxLong + 1, api.MaxLong + 2, 2 * api.MaxLong, 256, 257, 1 << 16, 1<<16 + 1} {
		for _, pick := range append(d.middle(), d.out(all())) {
			wantsNoMirror(t, list(n, pick), api.ErrShape)
		}
	}
}

// lengths are some that a vector may have.
func lengths() []int {
	return []int{1, 2, 3, 6, 7, 31, 63, 64}
}

// TestP13_1NotFinite: one number that is not finite, at each place, among ordinary numbers, among noughts, and among others that are not finite.
func TestP13_1NotFinite(t *testing.T) {
	d := dice(1302)
	for _, n := range lengths() {
		for _, pick := range []func() api.Bits{d.near(-3, 6), d.out(noughts()), d.out(finites()), d.out(all())} {
			for _, none := range notFinite() {
				for at := range n {
					x := list(n, pick)
					x[at] = none
					wantsNoMirror(t, x, api.ErrFinite)
				}
			}
		}
	}
}

// TestP13_1ShapeFirst: what is too long may hold what is not finite, and what is too great.
func TestP13_1ShapeFirst(t *testing.T) {
	for _, b := range append(notFinite(), greatest, api.Zero) {
		x := slices.Repeat([]api.Bits{b}, api.MaxLong+1)
		wantsNoMirror(t, x, api.ErrShape)
	}
	x := ones(api.MaxLong + 1)
	x[api.MaxLong] = api.Inf
	wantsNoMirror(t, x, api.ErrShape)
}

// TestP13_1FiniteFirst: numbers that are too great, and one among them that is not finite.
func TestP13_1FiniteFirst(t *testing.T) {
	for _, n := range []int{3, 5, 64} {
		for at := range n {
			x := slices.Repeat([]api.Bits{greatest}, n)
			wantsNoMirror(t, x, api.ErrRange)
			for _, none := range notFinite() {
				x[at] = none
				wantsNoMirror(t, x, api.ErrFinite)
			}
		}
	}
}

// TestP13_1MuTooGreat: a norm that is not finite, with first numbers of all sizes, a nought too.
func TestP13_1MuTooGreat(t *testing.T) {
	for _, first := range finites() {
		for _, s := range noughts() {
			wantsNoMirror(t, []api.Bits{first, greatest | s, greatest}, api.ErrRange)
			wantsNoMirror(t, []api.Bits{first, power(1023), power(1023) | s, power(1023), power(1023)}, api.ErrRange)
			wantsNoMirror(t, append([]api.Bits{first}, slices.Repeat([]api.Bits{0x7fc8000000000000 | s}, 63)...), api.ErrRange)
		}
	}
	for _, s := range noughts() {
		wantsNoMirror(t, []api.Bits{greatest | s, greatest}, api.ErrRange)
		wantsNoMirror(t, []api.Bits{power(1023) | s, 0x7fec000000000000, power(1023)}, api.ErrRange)
	}
}

// TestP13_1DTooGreat: a norm that is finite, and less the first number is not; just at the edge d is halfway between the greatest number and 2^1024, or the greatest number itself.
func TestP13_1DTooGreat(t *testing.T) {
	for _, s := range noughts() {
		for _, r := range noughts() {
			wantsNoMirror(t, []api.Bits{power(1023) | s, power(1022) | r}, api.ErrRange)
			wantsNoMirror(t, []api.Bits{power(1023) | s, least | r}, api.ErrRange)
			wantsNoMirror(t, []api.Bits{greatest | s, api.Zero, least | r}, api.ErrRange)
			wantsNoMirror(t, []api.Bits{(power(1023) - 1) | s, power(997) | r}, api.ErrRange) // 2^1023 - 2^970, and the norm 2^1023
			d := greatest ^ s                                                                 // d has a's sign
			x := []api.Bits{(power(1023) - 2) | s, 0x7e46a09e667f3bcd | r}                    // 2^1023 - 2^971, 2^997 times the root of 2
			wantsMirror(t, x, []api.Bits{api.One, says(float(x[1]) / float(d))}, two-1, minus(power(1023)|s))
		}
	}
}

// TestP13_1NoughtsBehind: all numbers but the first are noughts, whatever the first one: it is handed on as it is, a nought's sign too, and nothing of it is too great.
func TestP13_1NoughtsBehind(t *testing.T) {
	d := dice(1303)
	for n := 1; n <= api.MaxLong; n++ {
		v := append([]api.Bits{api.One}, make([]api.Bits, n-1)...)
		for _, first := range finites() {
			for _, pick := range []func() api.Bits{d.out(noughts()), d.out([]api.Bits{api.Zero}), d.out([]api.Bits{api.NegZero})} {
				wantsMirror(t, append([]api.Bits{first}, list(n-1, pick)...), v, api.Zero, first)
			}
		}
	}
}

// TestP13_1NoughtsInFront: the sign is that of the first number that is no nought, wherever it stands and whatever comes behind it.
func TestP13_1NoughtsInFront(t *testing.T) {
	d := dice(1304)
	for _, n := range []int{2, 3, 6, 64} {
		for at := 1; at < n; at++ {
			for _, b := range numbers() {
				x := append(list(at, d.out(noughts())), b)
				x = append(x, list(n-at-1, d.out([]api.Bits{api.Zero, least, minus(least), leastNormal, minus(leastNormal), api.NegZero}))...)
				_, tau, beta, e := house.Make(x)
				if beta>>63 == b>>63 || float(beta) == 0 || tau != api.One || e != api.OK {
					t.Errorf("Make(%s): tau %x, beta %x, %v", show(x), tau, beta, e)
				}
			}
		}
	}
}

// TestP13_2FormFirst: what is not right has no part, whichever is asked for.
func TestP13_2FormFirst(t *testing.T) {
	for _, m := range wrong() {
		what := fmt.Sprintf("Apply to %d rows, %d columns, %d numbers", m.Rows, m.Cols, len(m.Data))
		for _, p := range [][2]int{{0, 0}, {-1, 0}, {0, -1}, {m.Rows, 0}, {0, m.Cols}, {m.Rows + 1, 0}, {0, m.Cols + 1}, {math.MinInt, math.MaxInt}} {
			for _, n := range []int{0, 1, 2, 7, 65} {
				got, e := house.Apply(m, p[0], p[1], ones(n), api.One)
				wantsNone(t, what, got, e, api.ErrForm)
			}
			got, e := house.Apply(m, p[0], p[1], []api.Bits{api.NaN}, api.Inf)
			wantsNone(t, what, got, e, api.ErrForm)
		}
	}
}

// TestP13_2Which goes over all sizes, all parts from -1 to one behind the last, and far out, and all lengths of v.
func TestP13_2Which(t *testing.T) {
	d := dice(1305)
	for _, s := range sizes() {
		m := picked(s[0], s[1], d.near(-3, 6))
		places := append(beyond(), 0, 1, 2, 3, 4, 5, 6)
		for _, n := range []int{0, 1, 2, 3, 4, 5, 6, 7, 64, 65, 1 << 10} {
			v := list(n, d.near(-3, 6))
			for _, i := range places {
				for _, k := range places {
					what := fmt.Sprintf("Apply to sizes %v from %d and %d on, of %d numbers", s, i, k, n)
					got, e := house.Apply(m, i, k, v, api.Zero)
					if i >= 0 && i <= m.Rows && n <= m.Rows-i && k >= 0 && k <= m.Cols {
						wants(t, what, got, e, m) // less 0 times v: as it was
					} else {
						wantsNone(t, what, got, e, api.ErrShape)
					}
				}
			}
		}
	}
}

// TestP13_2OtherWay: rows are not columns: places that are one of the others alone are none.
func TestP13_2OtherWay(t *testing.T) {
	lying, standing := of(2, 6, ones(12)...), of(6, 2, ones(12)...)
	for _, p := range []struct {
		m    api.Matrix
		i, k int
		n    int
		ok   bool
	}{
		{lying, 0, 6, 2, true}, {standing, 0, 6, 2, false}, {standing, 6, 0, 0, true}, {lying, 6, 0, 0, false},
		{standing, 0, 0, 6, true}, {lying, 0, 0, 6, false}, {standing, 4, 2, 2, true}, {lying, 2, 4, 0, true}, {lying, 2, 4, 1, false}, {standing, 4, 3, 2, false},
	} {
		what := fmt.Sprintf("Apply to %v from %d and %d on, of %d numbers", p.m, p.i, p.k, p.n)
		got, e := house.Apply(p.m, p.i, p.k, ones(p.n), api.Zero)
		if p.ok {
			wants(t, what, got, e, p.m)
		} else {
			wantsNone(t, what, got, e, api.ErrShape)
		}
	}
}

// TestP13_2AnyNumbers: neither v, nor tau, nor the matrix is asked whether it is finite; nor what shape comes of it.
func TestP13_2AnyNumbers(t *testing.T) {
	for _, b := range all() {
		for _, tau := range all() {
			got, e := house.Apply(of(1, 1, b), 0, 0, []api.Bits{b, b}, tau)
			wantsNone(t, "too many numbers", got, e, api.ErrShape)
			if got, e = house.Apply(of(1, 1, b), 0, 0, []api.Bits{b}, tau); len(got.Data) != 1 || e != api.OK {
				t.Errorf("%x mirrored by itself and %x: %x, %v", b, tau, got, e)
			}
		}
	}
}
