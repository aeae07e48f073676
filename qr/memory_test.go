package qr_test

import (
	"slices"
	"testing"

	"dioptra/api"
	"dioptra/qr"
)

const mark = api.Bits(0xdeadbeefdeadbeef)

// roomy is a copy of m with marks in the room behind its numbers' end.
func roomy(m api.Matrix) api.Matrix {
	n := len(m.Data)
	m.Data = append(slices.Clone(m.Data), mark, mark, mark)[:n]
	return m
}

// whole is a copy of m's numbers, with the room behind their end.
func whole(m api.Matrix) []api.Bits {
	return slices.Clone(m.Data[:cap(m.Data)])
}

// spoil writes over m's numbers and the room behind their end.
func spoil(m api.Matrix) {
	data := m.Data[:cap(m.Data)]
	for i := range data {
		data[i] = mark
	}
}

// inputs are matrices of all sizes, such as come out as they are, such as have no factors, and such as are wrong.
func inputs() []api.Matrix {
	d := dice(1430)
	list := []api.Matrix{{}, of(2, 2, api.One), of(2, 2, filled(5, 1, api.One).Data...), of(7, 1, filled(7, 1, api.One).Data...), of(-1, -1, api.One), of(2, 1, api.One, api.Inf), of(2, 1, greatest, greatest), of(2, 2, api.One, greatest, api.One, greatest), eye(6), filled(3, 3, api.NegZero)}
	for _, s := range sizes() {
		list = append(list, picked(s[0], s[1], d.near(-3, 6)), d.upper(picked(s[0], s[1], d.near(-3, 6))), picked(s[0], s[1], d.out(finites())))
	}
	return list
}

// calls are the two that factor.
func calls() []func(a api.Matrix) (api.Matrix, api.Matrix, api.Errno) {
	return []func(a api.Matrix) (api.Matrix, api.Matrix, api.Errno){qr.Factor, qr.Thin}
}

// TestP14_1NothingHandedInChanges: nor what lies behind the numbers' end; and a second answer is the first one.
func TestP14_1NothingHandedInChanges(t *testing.T) {
	for _, from := range inputs() {
		for i, ask := range calls() {
			a := roomy(from)
			before := whole(a)
			q, r, e := ask(a)
			if !slices.Equal(whole(a), before) {
				t.Fatalf("call %d: %x became %x", i, before, whole(a))
			}
			if q2, r2, f := ask(a); !same(q, q2) || !same(r, r2) || e != f {
				t.Errorf("call %d of %s: %s, %s, %v, and then %s, %s, %v", i, show(a), show(q), show(r), e, show(q2), show(r2), f)
			}
		}
	}
}

// TestP14_1NewMemory: no answer shares memory with what is handed in, with another answer, or with its own other list.
func TestP14_1NewMemory(t *testing.T) {
	for _, from := range inputs() {
		for i, ask := range calls() {
			a := roomy(from)
			before := whole(a)
			q, r, _ := ask(a)
			q2, r2, _ := ask(a)
			wantQ, wantR := clone(q), clone(r)
			spoil(q)
			if !slices.Equal(whole(a), before) || !same(r, wantR) || !same(q2, wantQ) || !same(r2, wantR) {
				t.Fatalf("call %d of %s: q shares memory", i, show(from))
			}
			spoil(r)
			if !slices.Equal(whole(a), before) || !same(q2, wantQ) || !same(r2, wantR) {
				t.Fatalf("call %d of %s: r shares memory", i, show(from))
			}
			spoil(a)
			if !same(q2, wantQ) || !same(r2, wantR) {
				t.Errorf("call %d of %s: what is answered has changed with it", i, show(from))
			}
			if q3, r3, _ := ask(roomy(from)); !same(q3, wantQ) || !same(r3, wantR) {
				t.Errorf("call %d of %s: a later answer has changed with an earlier one", i, show(from))
			}
		}
	}
}

func TestP14_2NothingHandedInChanges(t *testing.T) {
	for _, from := range inputs() {
		for _, other := range inputs() {
			q, b := roomy(from), roomy(other)
			beforeQ, beforeB := whole(q), whole(b)
			first, e := qr.Turned(q, b)
			second, f := qr.Turned(q, b)
			want := clone(first)
			if !slices.Equal(whole(q), beforeQ) || !slices.Equal(whole(b), beforeB) {
				t.Fatalf("Turned(%s, %s): they became %s, %s", show(from), show(other), show(q), show(b))
			}
			spoil(first)
			if !same(second, want) || e != f || !slices.Equal(whole(q), beforeQ) || !slices.Equal(whole(b), beforeB) {
				t.Fatalf("Turned(%s, %s): an answer shares memory", show(from), show(other))
			}
			spoil(q)
			spoil(b)
			if !same(second, want) {
				t.Errorf("Turned(%s, %s): what is answered has changed with them", show(from), show(other))
			}
		}
	}
}

// TestP14_2OneMatrixTwice: one that is handed in as both is read as two are.
func TestP14_2OneMatrixTwice(t *testing.T) {
	for _, m := range inputs() {
		want, e := qr.Turned(roomy(m), roomy(m))
		if got, f := qr.Turned(m, m); !same(got, want) || e != f {
			t.Errorf("Turned of %s twice: %s, %v; wanted %s, %v", show(m), show(got), f, show(want), e)
		}
	}
}
