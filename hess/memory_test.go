package hess_test

import (
	"slices"
	"testing"

	"dioptra/api"
	"dioptra/hess"
)

const mark = api.Bits(0xdeadbeefdeadbeef)

// roomy is a copy of m with marks in the room behind its numbers' end.
func roomy(m api.Matrix) api.Matrix {
	n := len(m.Data)
	m.Data = append(slices.Clone(m.Data), mark, mark, mark)[:n]
	return m
}

// whole is a copy of m's numbers, with the room behind their end.
func whole(m api.Matrix) []api.Bits {
	return slices.Clone(m.Data[:cap(m.Data)])
}

// spoil writes over m's numbers and the room behind their end.
func spoil(m api.Matrix) {
	data := m.Data[:cap(m.Data)]
	for i := range data {
		data[i] = mark
	}
}

// inputs are matrices of all sizes: such as are brought to four, such as stay as they are, such as are too great, and such as are wrong.
func inputs() []api.Matrix {
	d := dice(1840)
	list := []api.Matrix{{}, of(2, 2, api.One), of(2, 2, filled(5, 1, api.One).Data...), of(7, 1, filled(7, 1, api.One).Data...), of(-1, -1, api.One), of(2, 1, api.One, api.Inf), filled(3, 3, greatest), filled(3, 3, api.NegZero)}
	for _, s := range sizes() {
		list = append(list, picked(s[0], s[1], d.near(-3, 6)))
		if s[0] == s[1] {
			list = append(list, eye(s[0]), picked(s[0], s[1], d.sparse(d.small(2))), picked(s[0], s[1], d.small(9)), picked(s[0], s[1], d.out(finites())))
		}
	}
	return list
}

// TestP18_1NothingHandedInChanges: nor what lies behind the numbers' end; a second answer is the first one, and no answer shares memory with what is handed in, or with another answer.
func TestP18_1NothingHandedInChanges(t *testing.T) {
	told := 0
	for _, from := range inputs() {
		for _, other := range inputs() {
			a, b := roomy(from), roomy(other)
			beforeA, beforeB := whole(a), whole(b)
			first, e := hess.Bring(a, b)
			second, f := hess.Bring(a, b)
			want := cloneFour(first)
			if !slices.Equal(whole(a), beforeA) || !slices.Equal(whole(b), beforeB) {
				t.Fatalf("Bring of %s, %s: they became %x, %x", show(from), show(other), whole(a), whole(b))
			}
			if !sameFour(first, second) || e != f {
				t.Fatalf("Bring of %s, %s: %v%sand then %v%s", show(from), show(other), e, showFour(first), f, showFour(second))
			}
			if len(first.H.Data) > 0 {
				told++
			}
			for _, m := range parts(first) {
				spoil(m)
			}
			if !sameFour(second, want) || !slices.Equal(whole(a), beforeA) || !slices.Equal(whole(b), beforeB) {
				t.Fatalf("Bring of %s, %s: an answer shares memory", show(from), show(other))
			}
			spoil(a)
			spoil(b)
			if !sameFour(second, want) {
				t.Errorf("Bring of %s, %s: what is told has changed with them", show(from), show(other))
			}
			if third, g := hess.Bring(from, other); !sameFour(third, want) || e != g {
				t.Errorf("Bring of %s, %s: a later answer has changed with an earlier one", show(from), show(other))
			}
		}
	}
	if told < 100 {
		t.Errorf("%d answers had numbers", told)
	}
}

// TestP18_1FourMemories: no two of the four share any, nor the room behind their ends.
func TestP18_1FourMemories(t *testing.T) {
	d := dice(1841)
	for n := range api.MaxDim + 1 {
		for _, pick := range []func() api.Bits{d.near(-3, 6), d.sparse(d.small(1)), d.out(noughts())} {
			a, b := picked(n, n, pick), picked(n, n, pick)
			want, _ := hess.Bring(a, b)
			for which := range 4 {
				got, _ := hess.Bring(a, b)
				spoil(parts(got)[which])
				for i, m := range parts(got) {
					if i != which && !same(m, parts(want)[i]) {
						t.Errorf("Bring of %s, %s: number %d of the four has changed with number %d", show(a), show(b), i, which)
					}
				}
			}
			for which := range 4 { // what is put behind one's end is seen in none of the others
				got, _ := hess.Bring(a, b)
				_ = append(parts(got)[which].Data, filled(6, 6, mark).Data...)
				if !sameFour(got, want) {
					t.Errorf("Bring of %s, %s: behind the end of number %d lies another one", show(a), show(b), which)
				}
			}
		}
	}
}

// TestP18_1OneMatrixTwice: one that is handed in as both is read as two are.
func TestP18_1OneMatrixTwice(t *testing.T) {
	for _, m := range inputs() {
		want, e := hess.Bring(roomy(m), roomy(m))
		if got, f := hess.Bring(m, m); !sameFour(got, want) || e != f {
			t.Errorf("Bring of %s twice: %v%swanted %v%s", show(m), f, showFour(got), e, showFour(want))
		}
	}
}

// TestP18_1InfiniteChangesNothing: Infinite leaves what is handed in, too, as it is, and tells the same each time.
func TestP18_1InfiniteChangesNothing(t *testing.T) {
	for _, from := range inputs() {
		m := roomy(from)
		before := whole(m)
		first, e := hess.Infinite(m)
		second, f := hess.Infinite(m)
		if first != second || e != f || !slices.Equal(whole(m), before) {
			t.Errorf("Infinite of %s: %d, %v, and then %d, %v; they became %x", show(from), first, e, second, f, whole(m))
		}
	}
}
