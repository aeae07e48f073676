package gglm_test

import (
	"slices"
	"testing"

	"dioptra/api"
	"dioptra/gglm"
)

const mark = api.Bits(0xdeadbeefdeadbeef)

// answer is what Solve tells.
type answer struct {
	x, y api.Matrix
	e    api.Errno
}

func ask(task gglm.Task) answer {
	x, y, e := gglm.Solve(task)
	return answer{x, y, e}
}

func (a answer) clone() answer {
	return answer{clone(a.x), clone(a.y), a.e}
}

func (a answer) same(b answer) bool {
	return same(a.x, b.x) && same(a.y, b.y) && a.e == b.e
}

// both are the two lists of an answer.
func (a answer) both() [2]api.Matrix {
	return [2]api.Matrix{a.x, a.y}
}

// roomy is a copy of m with marks in the room behind its numbers' end.
func roomy(m api.Matrix) api.Matrix {
	n := len(m.Data)
	m.Data = append(slices.Clone(m.Data), mark, mark, mark)[:n]
	return m
}

// whole is a copy of all parts' numbers, with the room behind their ends.
func whole(t gglm.Task) []api.Bits {
	var list []api.Bits
	for _, m := range parts(t) {
		list = append(list, m.Data[:cap(m.Data)]...)
	}
	return list
}

// spoil writes over m's numbers and the room behind their end.
func spoil(m api.Matrix) {
	data := m.Data[:cap(m.Data)]
	for i := range data {
		data[i] = mark
	}
}

// inputs are tasks of all shapes, such as are flat, such as are too great, and such as are wrong.
func inputs() []gglm.Task {
	d := dice(2140)
	list := append(tasks(), gglm.Task{}, gglm.Task{A: of(2, 2, api.One)}, gglm.Task{A: of(1, 1, api.Inf)})
	for _, s := range shapes() {
		list = append(list, s.one(d.near(-3, 6)), s.one(d.small(2)), s.one(d.out(finites())))
		for i := range 3 {
			list = append(list, with(s.one(d.near(-3, 6)), i, of(1, 2, filled(5, 1, api.One).Data...)), with(s.one(d.near(-3, 6)), i, of(1, 1, api.NegInf)))
		}
	}
	return list
}

// TestP21_2NothingHandedInChanges: nor what lies behind the numbers' ends; a second answer is the first one, and no answer shares memory with what is handed in, or with another answer.
func TestP21_2NothingHandedInChanges(t *testing.T) {
	told := 0
	for _, from := range inputs() {
		task := eachPart(from, roomy)
		before := whole(task)
		if e, f := gglm.Check(task), gglm.Check(from); e != f || !slices.Equal(whole(task), before) {
			t.Fatalf("Check of\n%s%v, %v; they became %x", showTask(from), e, f, whole(task))
		}
		first, second := ask(task), ask(task)
		want := first.clone()
		if !slices.Equal(whole(task), before) {
			t.Fatalf("Solve of\n%sthey became %x", showTask(from), whole(task))
		}
		if !first.same(second) {
			t.Fatalf("Solve of\n%s%v, and then %v", showTask(from), first, second)
		}
		if len(first.x.Data) > 0 && len(first.y.Data) > 0 {
			told++
		}
		for _, m := range first.both() {
			spoil(m)
		}
		if !second.same(want) || !slices.Equal(whole(task), before) {
			t.Fatalf("Solve of\n%san answer shares memory", showTask(from))
		}
		for _, m := range parts(task) {
			spoil(m)
		}
		if !second.same(want) {
			t.Errorf("Solve of\n%swhat is told has changed with them", showTask(from))
		}
		if third := ask(from); !third.same(want) {
			t.Errorf("Solve of\n%sa later answer has changed with an earlier one", showTask(from))
		}
	}
	if told < 150 {
		t.Errorf("%d answers had numbers", told)
	}
}

// TestP21_2TwoMemories: x and y share none, nor the room behind their ends.
func TestP21_2TwoMemories(t *testing.T) {
	for _, task := range inputs() {
		want := ask(task)
		for which := range want.both() {
			got := ask(task)
			spoil(got.both()[which])
			if other := 1 - which; !same(got.both()[other], want.both()[other]) {
				t.Errorf("Solve of\n%snumber %d of the two has changed with number %d", showTask(task), other, which)
			}
			got = ask(task)
			_ = append(got.both()[which].Data, filled(6, 6, mark).Data...) // what is put behind one's end is not seen in the other
			if !got.same(want) {
				t.Errorf("Solve of\n%sbehind the end of number %d of the two lies the other one", showTask(task), which)
			}
		}
	}
}

// TestP21_2OnePartTwice: a matrix that stands in two parts, or numbers that do, are read as those of their own.
func TestP21_2OnePartTwice(t *testing.T) {
	d := dice(2141)
	look := func(task gglm.Task) {
		want, got := ask(eachPart(task, clone)), ask(task)
		if !got.same(want) {
			t.Errorf("Solve of\n%s%v; wanted %v", showTask(task), got, want)
		}
	}
	for n := range api.MaxDim + 1 {
		for _, pick := range []func() api.Bits{d.near(-3, 6), d.small(3), d.out(finites())} {
			a := picked(n, n, pick)
			look(gglm.Task{A: a, B: a, D: picked(n, 1, pick)})
			all := picked(6, 6, pick).Data
			for m := range n + 1 {
				look(gglm.Task{A: of(n, m, all[:n*m]...), B: of(n, n, all[:n*n]...), D: of(n, 1, all[:n]...)})
			}
			column := picked(n, 1, pick)
			if n > 0 && n < 3 {
				look(gglm.Task{A: column, B: column, D: column})
			}
		}
	}
}
