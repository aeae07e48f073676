package rq_test

import (
	"slices"
	"testing"

	"dioptra/api"
	"dioptra/rq"
)

const mark = api.Bits(0xdeadbeefdeadbeef)

// roomy is a copy of m with marks in the room behind its numbers' end.
func roomy(m api.Matrix) api.Matrix {
	n := len(m.Data)
	m.Data = append(slices.Clone(m.Data), mark, mark, mark)[:n]
	return m
}

// whole is a copy of m's numbers, with the room behind their end.
func whole(m api.Matrix) []api.Bits {
	return slices.Clone(m.Data[:cap(m.Data)])
}

// spoil writes over m's numbers and the room behind their end.
func spoil(m api.Matrix) {
	data := m.Data[:cap(m.Data)]
	for i := range data {
		data[i] = mark
	}
}

// inputs are matrices of all sizes, such as come out as they are, such as have no factors, and such as are wrong.
func inputs() []api.Matrix {
	d := dice(1530)
	list := []api.Matrix{{}, of(2, 2, api.One), of(2, 2, filled(5, 1, api.One).Data...), of(7, 1, filled(7, 1, api.One).Data...), of(-1, -1, api.One), of(1, 2, api.One, api.Inf), of(1, 2, greatest, greatest), of(2, 2, api.One, api.One, greatest, greatest), eye(6), upsideDown(eye(6)), filled(3, 3, api.NegZero)}
	for _, s := range sizes() {
		m := picked(s[0], s[1], d.near(-3, 6))
		list = append(list, m, d.bare(m, aboveDiagonal), d.bare(m, aheadOfCorner), d.bare(m, behindCounter), picked(s[0], s[1], d.out(finites())))
	}
	return list
}

// TestP15_2NothingHandedInChanges: nor what lies behind the numbers' end; and a second answer is the first one.
func TestP15_2NothingHandedInChanges(t *testing.T) {
	for _, from := range inputs() {
		for _, w := range ways() {
			a := roomy(from)
			before := whole(a)
			f, q, e := w.ask(a)
			if !slices.Equal(whole(a), before) {
				t.Fatalf("%s: %x became %x", w.name, before, whole(a))
			}
			if f2, q2, e2 := w.ask(a); !same(f, f2) || !same(q, q2) || e != e2 {
				t.Errorf("%s of %s: %s, %s, %v, and then %s, %s, %v", w.name, show(a), show(f), show(q), e, show(f2), show(q2), e2)
			}
		}
	}
}

// TestP15_2NewMemory: no answer shares memory with what is handed in, with another answer, or with its own other list.
func TestP15_2NewMemory(t *testing.T) {
	for _, from := range inputs() {
		for _, w := range ways() {
			a := roomy(from)
			before := whole(a)
			f, q, _ := w.ask(a)
			f2, q2, _ := w.ask(a)
			wantF, wantQ := clone(f), clone(q)
			spoil(f)
			if !slices.Equal(whole(a), before) || !same(q, wantQ) || !same(f2, wantF) || !same(q2, wantQ) {
				t.Fatalf("%s of %s: the first factor shares memory", w.name, show(from))
			}
			spoil(q)
			if !slices.Equal(whole(a), before) || !same(f2, wantF) || !same(q2, wantQ) {
				t.Fatalf("%s of %s: q shares memory", w.name, show(from))
			}
			spoil(a)
			if !same(f2, wantF) || !same(q2, wantQ) {
				t.Errorf("%s of %s: what is answered has changed with it", w.name, show(from))
			}
			if f3, q3, _ := w.ask(roomy(from)); !same(f3, wantF) || !same(q3, wantQ) {
				t.Errorf("%s of %s: a later answer has changed with an earlier one", w.name, show(from))
			}
		}
	}
}

// TestP15_1Memory: the same of Flip, where nothing is to be turned, too.
func TestP15_1Memory(t *testing.T) {
	for _, from := range append(inputs(), of(1, 1, api.NaN+1), filled(6, 6, api.Inf)) {
		for _, p := range pairs() {
			m := roomy(from)
			before := whole(m)
			first, e := rq.Flip(m, p[0], p[1])
			second, f := rq.Flip(m, p[0], p[1])
			want := clone(first)
			if !slices.Equal(whole(m), before) || !same(first, second) || e != f {
				t.Fatalf("Flip(%s, %v): %s, %v, then %s, %v; it became %x", show(from), p, show(first), e, show(second), f, whole(m))
			}
			spoil(first)
			if !slices.Equal(whole(m), before) || !same(second, want) {
				t.Fatalf("Flip(%s, %v): an answer shares memory", show(from), p)
			}
			spoil(m)
			if !same(second, want) {
				t.Errorf("Flip(%s, %v): what is answered has changed with it", show(from), p)
			}
		}
	}
}
