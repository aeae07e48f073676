package certify_test

import (
	"slices"
	"testing"

	"dioptra/api"
	"dioptra/certify"
)

const mark = api.Bits(0xdeadbeefdeadbeef)

// roomy is a copy of m with marks in the room behind its numbers' end.
func roomy(m api.Matrix) api.Matrix {
	n := len(m.Data)
	m.Data = append(slices.Clone(m.Data), mark, mark, mark)[:n]
	return m
}

// whole is a copy of m's numbers, with the room behind their end.
func whole(m api.Matrix) []api.Bits {
	return slices.Clone(m.Data[:cap(m.Data)])
}

// call is one of the calls that tell a number.
type call func(a, b, c api.Matrix) (api.Dyadic, api.Errno)

func calls() []call {
	return []call{
		certify.Residual, certify.Gradient,
		func(a, _, _ api.Matrix) (api.Dyadic, api.Errno) { return certify.Square(a) },
		func(a, _, _ api.Matrix) (api.Dyadic, api.Errno) { return certify.Orthogonal(a) },
	}
}

// inputs are matrices of several sizes, some that may not be asked.
func inputs() []api.Matrix {
	d := dice(1141)
	list := []api.Matrix{{}, of(0, 2), eye(2), filled(2, 2, api.NegZero), of(2, 2, api.One), of(2, 2, api.One, api.Inf, api.One, api.One), of(1, 1, api.One), of(2, 1, api.One, api.Zero), of(7, 1)}
	for _, s := range [][2]int{{1, 1}, {1, 2}, {2, 1}, {2, 2}, {3, 2}} {
		list = append(list, picked(s[0], s[1], d.near(-3, 6)), picked(s[0], s[1], d.out(finites()...)))
	}
	return list
}

// TestP11_1NothingHandedInChanges: nor what lies behind a list's end; and a second answer is the first one.
func TestP11_1NothingHandedInChanges(t *testing.T) {
	for _, from := range inputs() {
		for _, other := range inputs() {
			for _, last := range inputs() {
				a, b, c := roomy(from), roomy(other), roomy(last)
				before := [][]api.Bits{whole(a), whole(b), whole(c)}
				for i, ask := range calls() {
					got, e := ask(a, b, c)
					if again, f := ask(a, b, c); !same(got, again) || e != f {
						t.Errorf("call %d: %s, %v, and then %s, %v", i, show(got), e, show(again), f)
					}
				}
				certify.Check(a)
				certify.Rank(a)
				for i, list := range [][]api.Bits{whole(a), whole(b), whole(c)} {
					if !slices.Equal(list, before[i]) {
						t.Fatalf("%x became %x", before[i], list)
					}
				}
			}
		}
	}
}

// TestP11_1OneMatrixThrice: one that is handed in as all three is read as three are.
func TestP11_1OneMatrixThrice(t *testing.T) {
	for _, m := range inputs() {
		for i, ask := range calls() {
			want, e := ask(roomy(m), roomy(m), roomy(m))
			if got, f := ask(m, m, m); !same(got, want) || e != f {
				t.Errorf("call %d of %x: %s, %v; wanted %s, %v", i, m, show(got), f, show(want), e)
			}
		}
	}
}

// spoil writes over a number's limbs, and the room behind their end.
func spoil(d api.Dyadic) {
	limbs := d.M.Limbs[:cap(d.M.Limbs)]
	for i := range limbs {
		limbs[i] = 0xdeadbeef
	}
}

func TestP11_1NewMemory(t *testing.T) {
	for _, from := range inputs() {
		for _, other := range inputs() {
			for i, ask := range calls() {
				a, b := roomy(from), roomy(other)
				first, _ := ask(a, b, a)
				second, e := ask(a, b, a)
				want := api.Dyadic{M: api.Whole{Neg: second.M.Neg, Limbs: slices.Clone(second.M.Limbs)}, E: second.E}
				spoil(first)
				if !same(second, want) {
					t.Errorf("call %d: two answers of %x and %x share memory", i, a, b)
				}
				if third, f := ask(a, b, a); !same(third, want) || e != f {
					t.Errorf("call %d of %x and %x: a later answer has changed with an earlier one", i, a, b)
				}
			}
		}
	}
}

// roomyNumber is a copy of d with marks in the room behind its limbs' end.
func roomyNumber(d api.Dyadic) api.Dyadic {
	n := len(d.M.Limbs)
	d.M.Limbs = append(slices.Clone(d.M.Limbs), 0xdeadbeef, 0xdeadbeef)[:n]
	return d
}

func TestP11_2WithinChangesNothing(t *testing.T) {
	limbs := func(d api.Dyadic) []uint32 { return slices.Clone(d.M.Limbs[:cap(d.M.Limbs)]) }
	list := append(append(dyadics(), wrongDyadics()...), belowZero()...)
	for i, from := range list {
		x, y := roomyNumber(from), roomyNumber(list[len(list)-1-i])
		beforeX, beforeY := limbs(x), limbs(y)
		for _, k := range []int{-1, 0, 20, 200, 201} {
			want, e := certify.Within(from, list[len(list)-1-i], k) // without anything behind the end
			if is, f := certify.Within(x, y, k); is != want || e != f {
				t.Errorf("Within(%s, %s, %d): %v, %v; wanted %v, %v", show(x), show(y), k, is, f, want, e)
			}
			certify.Within(x, x, k)
		}
		if !slices.Equal(limbs(x), beforeX) || !slices.Equal(limbs(y), beforeY) {
			t.Fatalf("%s or %s has changed", show(x), show(y))
		}
	}
}
