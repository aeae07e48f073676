package givens_test

import (
	"slices"
	"testing"

	"dioptra/api"
)

const mark = api.Bits(0xdeadbeefdeadbeef)

// roomy is a copy of m with marks in the room behind its numbers' end.
func roomy(m api.Matrix) api.Matrix {
	n := len(m.Data)
	m.Data = append(slices.Clone(m.Data), mark, mark, mark)[:n]
	return m
}

// whole is a copy of m's numbers, with the room behind their end.
func whole(m api.Matrix) []api.Bits {
	return slices.Clone(m.Data[:cap(m.Data)])
}

// inputs are matrices of several sizes, some that are not right.
func inputs() []api.Matrix {
	d := dice(1212)
	list := []api.Matrix{{}, of(0, 3), of(3, 0), of(2, 2, ones(3)...), of(2, 2, ones(5)...), of(-1, -1, api.One), of(7, 2, ones(14)...)}
	for _, s := range [][2]int{{1, 1}, {1, 2}, {2, 1}, {2, 2}, {3, 2}, {2, 3}, {6, 6}} {
		list = append(list, picked(s[0], s[1], d.near(-3, 6)), picked(s[0], s[1], d.out(all())))
	}
	return list
}

// places are rows and columns, such as there are and such as there are not.
func places() [][2]int {
	return [][2]int{{0, 1}, {1, 0}, {2, 0}, {5, 4}, {0, 0}, {-1, 0}, {0, 6}}
}

// factors are c and s, such as leave finite numbers as they are too.
func factors() [][2]api.Bits {
	return [][2]api.Bits{{api.One, api.Zero}, {api.Zero, api.One}, {0x3fe3333333333333, 0x3fe999999999999a}, {api.NaN, api.Inf}}
}

// TestP12_2NothingHandedInChanges: nor what lies behind the numbers' end; and a second answer is the first one.
func TestP12_2NothingHandedInChanges(t *testing.T) {
	for _, from := range inputs() {
		for _, p := range places() {
			for _, x := range factors() {
				for name, ask := range calls() {
					m := roomy(from)
					before := whole(m)
					got, e := ask(m, p[0], p[1], x[0], x[1])
					if !slices.Equal(whole(m), before) {
						t.Fatalf("%s %v: %x became %x", name, p, before, whole(m))
					}
					if again, f := ask(m, p[0], p[1], x[0], x[1]); !same(got, again) || e != f {
						t.Errorf("%s %v: %x, %v, and then %x, %v", name, p, got, e, again, f)
					}
				}
			}
		}
	}
}

// spoil writes over a matrix's numbers and the room behind their end.
func spoil(m api.Matrix) {
	for i := range cap(m.Data) {
		m.Data[:cap(m.Data)][i] = mark
	}
}

func TestP12_2NewMemory(t *testing.T) {
	for _, from := range inputs() {
		for _, p := range places() {
			for _, x := range factors() {
				for name, ask := range calls() {
					m := roomy(from)
					before := whole(m)
					first, _ := ask(m, p[0], p[1], x[0], x[1])
					second, _ := ask(m, p[0], p[1], x[0], x[1])
					should := slices.Clone(second.Data)
					spoil(first)
					if !slices.Equal(whole(m), before) || !slices.Equal(second.Data, should) {
						t.Fatalf("%s %v of %x: an answer shares memory", name, p, before)
					}
					spoil(m)
					if !slices.Equal(second.Data, should) {
						t.Errorf("%s %v: what is answered has changed with %x", name, p, before)
					}
					if third, _ := ask(roomy(from), p[0], p[1], x[0], x[1]); !slices.Equal(third.Data, should) {
						t.Errorf("%s %v of %x: a later answer has changed with an earlier one", name, p, before)
					}
				}
			}
		}
	}
}
