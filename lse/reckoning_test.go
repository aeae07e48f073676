package lse_test

import (
	"testing"

	"dioptra/api"
	"dioptra/certify"
	"dioptra/lse"
	"dioptra/matrix"
	"dioptra/qr"
	"dioptra/solve"
)

// wantsGos holds a right task of finite numbers against the machine's own ones, and tells what could not be, or "".
func wantsGos(t *testing.T, task lse.Task) string {
	t.Helper()
	c := gosSolve(task)
	if c.err != api.OK {
		fails(t, task, c.err)
	} else {
		wants(t, task, oneColumn(c.x))
	}
	return c.failed
}

// TestP20_2GosOwn goes over all shapes with numbers of all sorts: one sort in all four parts, one in a and c beside others in b and d, the other way round, and each part of its own sort.
func TestP20_2GosOwn(t *testing.T) {
	d := dice(2001)
	count := map[string]int{}
	sorts := d.sorts()
	some := func() func() api.Bits { return sorts[d.below(len(sorts))] }
	for _, s := range shapes() {
		for _, pick := range sorts {
			count[wantsGos(t, s.one(pick))]++
			count[wantsGos(t, s.task(pick, d.near(-3, 6), pick, d.near(-3, 6)))]++
			count[wantsGos(t, s.task(d.near(-3, 6), pick, d.near(-3, 6), pick))]++
			count[wantsGos(t, s.task(some(), some(), some(), some()))]++
		}
	}
	for _, what := range []string{"", "factors", "flat", "y", "e", "f", "least: factors", "least: flat", "least: x"} { // the others are rare: see TestP20_2NotFinite
		if count[what] < 100 {
			t.Errorf("what failed: %v", count)
		}
	}
}

// TestP20_2Greatest: a and b of just MaxDim columns, each of them of just MaxDim rows, or both.
func TestP20_2Greatest(t *testing.T) {
	d := dice(2002)
	for k := range api.MaxDim + 1 {
		for _, pick := range d.sorts() {
			wantsGos(t, shape{api.MaxDim, api.MaxDim, k}.one(pick))
			wantsGos(t, shape{k, api.MaxDim, api.MaxDim}.one(pick))
		}
	}
}

// TestP20_2SizesUnlike: each column of a and b, and each row, times a power of two of its own.
func TestP20_2SizesUnlike(t *testing.T) {
	d := dice(2003)
	scaled := func(m api.Matrix, columns, rows []int) api.Matrix {
		m = clone(m)
		for i := range m.Rows {
			for k := range m.Cols {
				*at(m, i, k) += power(columns[k]+rows[i]) - api.One
			}
		}
		return m
	}
	powers := func(n int) []int {
		var list []int
		for range n {
			list = append(list, d.below(21)-10)
		}
		return list
	}
	count := map[string]int{}
	for _, s := range shapes() {
		for range 10 {
			task := s.one(d.near(-3, 6))
			columns := powers(s.n)
			task.A, task.B = scaled(task.A, columns, powers(s.m)), scaled(task.B, columns, powers(s.p))
			count[wantsGos(t, task)]++
		}
	}
	if count[""] < 1000 {
		t.Errorf("what failed: %v", count)
	}
}

// TestP20_2Hanging: b's rows hang on one another, or nearly so, or a's columns do, so that roundings say whether there is an answer; those stand beside parts of whole numbers, and of any.
func TestP20_2Hanging(t *testing.T) {
	d := dice(2004)
	count := map[string]int{}
	picks := []func() api.Bits{d.small(1), d.near(-3, 6), d.small(3)}
	for i, s := range shapes() {
		for e := 0; e < 50; e += 2 {
			task := s.one(picks[(i+e)%3])
			if s.p > 0 {
				count[wantsGos(t, with(task, 1, d.hanging(task.B)))]++
			}
			if s.p > 1 {
				count[wantsGos(t, with(task, 1, d.leaning(task.B, e)))]++
			}
			if s.n > 0 {
				count[wantsGos(t, with(task, 0, turned(d.hanging(turned(task.A)))))]++
			}
			if s.n > 1 {
				count[wantsGos(t, with(task, 0, turned(d.leaning(turned(task.A), e))))]++
			}
		}
	}
	if count[""] < 5000 || count["flat"] < 2500 || count["least: flat"] < 250 {
		t.Errorf("what failed: %v", count)
	}
}

// TestP20_2Noughts: noughts of either sign in c and in d, in some of a's columns, and in all of a.
func TestP20_2Noughts(t *testing.T) {
	d := dice(2005)
	nought := d.out(noughts())
	for _, s := range shapes() {
		for range 5 {
			task := s.one(d.near(-3, 6))
			wantsGos(t, with(task, 2, picked(s.m, 1, nought)))
			wantsGos(t, with(task, 3, picked(s.p, 1, nought)))
			wantsGos(t, with(with(task, 2, picked(s.m, 1, nought)), 3, picked(s.p, 1, nought)))
			wantsGos(t, with(task, 0, picked(s.m, s.n, nought)))
			wantsGos(t, with(task, 0, picked(s.m, s.n, d.sparse(d.small(2)))))
			wantsGos(t, with(task, 1, picked(s.p, s.n, d.sparse(d.small(2)))))
		}
	}
}

// TestP20_2ByHand: where nothing is rounded, since each equation names one number.
func TestP20_2ByHand(t *testing.T) {
	for _, c := range []struct {
		task lse.Task
		x    api.Matrix
	}{
		{lse.Task{A: wholes(2, 2, 1, 0, 0, 1), B: wholes(1, 2, 0, 1), C: wholes(2, 1, 1, 2), D: wholes(1, 1, 5)}, wholes(2, 1, 1, 5)},
		{lse.Task{A: wholes(2, 2, 1, 0, 0, 1), B: wholes(1, 2, 3, 0), C: wholes(2, 1, 1, 2), D: wholes(1, 1, 6)}, wholes(2, 1, 2, 2)},
		{lse.Task{A: wholes(1, 2, 2, 1), B: wholes(1, 2, 0, 1), C: wholes(1, 1, 7), D: wholes(1, 1, 3)}, wholes(2, 1, 2, 3)}, // n just m + p: both are fulfilled
		{lse.Task{A: wholes(1, 1, 2), B: of(0, 1), C: wholes(1, 1, 6), D: of(0, 1)}, wholes(1, 1, 3)},
		{lse.Task{A: wholes(1, 1, 2), B: wholes(1, 1, 4), C: wholes(1, 1, 6), D: wholes(1, 1, -8)}, wholes(1, 1, -2)}, // a and c are not asked
		{lse.Task{A: of(0, 1), B: wholes(1, 1, 4), C: of(0, 1), D: wholes(1, 1, 8)}, wholes(1, 1, 2)},
		{lse.Task{A: of(0, 2), B: wholes(2, 2, 1, 0, 1, 1), C: of(0, 1), D: wholes(2, 1, 3, 5)}, wholes(2, 1, 3, 2)},
		{lse.Task{A: of(3, 0), B: of(0, 0), C: wholes(3, 1, 1, 2, 3), D: of(0, 1)}, of(0, 1)}, // no column: nothing is asked for
		{lse.Task{A: of(0, 0), B: of(0, 0), C: of(0, 1), D: of(0, 1)}, of(0, 1)},
		{lse.Task{A: wholes(1, 3, 0, 2, 1), B: wholes(2, 3, 4, 0, 0, 0, 0, 2), C: wholes(1, 1, 3), D: wholes(2, 1, 4, 6)}, wholes(3, 1, 1, 0, 3)},
	} {
		if got, e := lse.Solve(c.task); !alike(got, c.x) || e != api.OK {
			t.Errorf("Solve of\n%s%s, %v; wanted %s", showTask(c.task), show(got), e, show(c.x))
		}
		wantsGos(t, c.task)
	}
}

// TestP20_2Example: the chapter's: x is 0, 1, but for roundings.
func TestP20_2Example(t *testing.T) {
	x, e := lse.Solve(lse.Task{A: eye(2), B: wholes(1, 2, 1, 1), C: wholes(2, 1, 1, 2), D: wholes(1, 1, 1)})
	want := wholes(2, 1, 0, 1)
	off, f := certify.Residual(want, eye(2), x)
	size, _ := certify.Square(want)
	if near, _ := certify.Within(off, size, 50); !near || e != api.OK || f != api.OK {
		t.Errorf("%s, %v", show(x), e)
	}
}

// byLayers is a task that has an answer, done by the calls of the layers below.
func byLayers(t *testing.T, task lse.Task) api.Matrix {
	t.Helper()
	n, p := task.B.Cols, task.B.Rows
	fine := func(m api.Matrix, e api.Errno) api.Matrix {
		if e != api.OK {
			t.Errorf("of\n%sa call of the layers below: %v", showTask(task), e)
		}
		return m
	}
	q, r, e := qr.Factor(fine(matrix.Turn(task.B)))
	fine(q, e)
	s := fine(matrix.Turn(fine(matrix.Part(r, 0, 0, p, p))))
	y := fine(solve.Lower(s, task.D))
	both := fine(matrix.Mul(task.A, q))
	f := fine(matrix.Sub(task.C, fine(matrix.Mul(fine(matrix.Part(both, 0, 0, both.Rows, p)), y))))
	z := fine(solve.Least(fine(matrix.Part(both, 0, p, both.Rows, n-p)), f))
	return fine(matrix.Mul(q, fine(matrix.Stack(y, z))))
}

// TestP1ByLayersBelow: what is told is what the calls of the layers below come to.
func TestP1ByLayersBelow(t *testing.T) {
	d := dice(2006)
	told := 0
	for _, s := range shapes() {
		for _, pick := range d.middle() {
			task := s.task(d.near(-3, 6), d.near(-3, 6), pick, pick)
			if gosSolve(task).err == api.OK {
				wants(t, task, byLayers(t, task))
				told++
			}
		}
	}
	if told < 1500 {
		t.Errorf("%d answers", told)
	}
}

// TestP20_2Sizes: as many numbers as a has columns, in one column, or none at all beside an error.
func TestP20_2Sizes(t *testing.T) {
	d := dice(2007)
	for _, s := range shapes() {
		x, e := lse.Solve(s.one(d.near(-3, 6)))
		if x.Rows != s.n || x.Cols != 1 || len(x.Data) != s.n || e != api.OK {
			t.Errorf("of %v: %s, %v", s, show(x), e)
		}
	}
}
