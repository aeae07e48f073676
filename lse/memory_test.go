package lse_test

import (
	"slices"
	"testing"

	"dioptra/api"
	"dioptra/lse"
)

const mark = api.Bits(0xdeadbeefdeadbeef)

// roomy is a copy of m with marks in the room behind its numbers' end.
func roomy(m api.Matrix) api.Matrix {
	n := len(m.Data)
	m.Data = append(slices.Clone(m.Data), mark, mark, mark)[:n]
	return m
}

// whole is a copy of all parts' numbers, with the room behind their ends.
func whole(t lse.Task) []api.Bits {
	var list []api.Bits
	for _, m := range parts(t) {
		list = append(list, m.Data[:cap(m.Data)]...)
	}
	return list
}

// spoil writes over m's numbers and the room behind their end.
func spoil(m api.Matrix) {
	data := m.Data[:cap(m.Data)]
	for i := range data {
		data[i] = mark
	}
}

// inputs are tasks of all shapes, such as are flat, such as are too great, and such as are wrong.
func inputs() []lse.Task {
	d := dice(2040)
	list := append(tasks(), lse.Task{}, lse.Task{A: of(2, 2, api.One)}, lse.Task{A: of(1, 1, api.Inf)})
	for _, s := range shapes() {
		list = append(list, s.one(d.near(-3, 6)), s.one(d.small(2)), s.one(d.out(finites())))
		for i := range 4 {
			list = append(list, with(s.one(d.near(-3, 6)), i, of(1, 2, filled(5, 1, api.One).Data...)), with(s.one(d.near(-3, 6)), i, of(1, 1, api.NegInf)))
		}
	}
	return list
}

// TestP20_2NothingHandedInChanges: nor what lies behind the numbers' ends; a second answer is the first one, and no answer shares memory with what is handed in, or with another answer.
func TestP20_2NothingHandedInChanges(t *testing.T) {
	told := 0
	for _, from := range inputs() {
		task := eachPart(from, roomy)
		before := whole(task)
		if e, f := lse.Check(task), lse.Check(from); e != f || !slices.Equal(whole(task), before) {
			t.Fatalf("Check of\n%s%v, %v; they became %x", showTask(from), e, f, whole(task))
		}
		first, e := lse.Solve(task)
		second, f := lse.Solve(task)
		want := clone(first)
		if !slices.Equal(whole(task), before) {
			t.Fatalf("Solve of\n%sthey became %x", showTask(from), whole(task))
		}
		if !same(first, second) || e != f {
			t.Fatalf("Solve of\n%s%s, %v, and then %s, %v", showTask(from), show(first), e, show(second), f)
		}
		if len(first.Data) > 0 {
			told++
		}
		spoil(first)
		if !same(second, want) || !slices.Equal(whole(task), before) {
			t.Fatalf("Solve of\n%san answer shares memory", showTask(from))
		}
		for _, m := range parts(task) {
			spoil(m)
		}
		if !same(second, want) {
			t.Errorf("Solve of\n%swhat is told has changed with them", showTask(from))
		}
		if third, g := lse.Solve(from); !same(third, want) || e != g {
			t.Errorf("Solve of\n%sa later answer has changed with an earlier one", showTask(from))
		}
	}
	if told < 200 {
		t.Errorf("%d answers had numbers", told)
	}
}

// TestP20_2OnePartTwice: a matrix that stands in two parts, or numbers that do, are read as those of their own.
func TestP20_2OnePartTwice(t *testing.T) {
	d := dice(2041)
	for n := range api.MaxDim + 1 {
		for _, pick := range []func() api.Bits{d.near(-3, 6), d.small(3), d.out(finites())} {
			a, c := picked(n, n, pick), picked(n, 1, pick)
			task := lse.Task{A: a, B: a, C: c, D: c}
			want, e := lse.Solve(eachPart(task, clone))
			if got, f := lse.Solve(task); !same(got, want) || e != f {
				t.Errorf("Solve of\n%s%s, %v; wanted %s, %v", showTask(task), show(got), f, show(want), e)
			}
			all := picked(6, 6, pick).Data
			task = lse.Task{A: of(n, n, all[:n*n]...), B: of(0, n), C: of(n, 1, all[:n]...), D: of(0, 1)}
			task.A.Data, task.C.Data = all[:n*n], all[:n]
			want, e = lse.Solve(eachPart(task, clone))
			if got, f := lse.Solve(task); !same(got, want) || e != f {
				t.Errorf("Solve of\n%s%s, %v; wanted %s, %v", showTask(task), show(got), f, show(want), e)
			}
		}
	}
}
