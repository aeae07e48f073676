package gglm_test

import (
	"testing"

	"dioptra/api"
	"dioptra/certify"
	"dioptra/gglm"
	"dioptra/matrix"
	"dioptra/qr"
	"dioptra/rq"
	"dioptra/solve"
)

// wantsGos holds a right task of finite numbers against the machine's own ones, and tells what could not be, or "".
func wantsGos(t *testing.T, task gglm.Task) string {
	t.Helper()
	c := gosSolve(task)
	if c.err != api.OK {
		fails(t, task, c.err)
	} else {
		wants(t, task, oneColumn(c.x), oneColumn(c.y))
	}
	return c.failed
}

// TestP21_2GosOwn goes over all shapes with numbers of all sorts: one sort in all three parts, one in one of them beside others in the others, and each part of its own sort.
func TestP21_2GosOwn(t *testing.T) {
	d := dice(2101)
	count := map[string]int{}
	sorts := d.sorts()
	some := func() func() api.Bits { return sorts[d.below(len(sorts))] }
	plain := d.near(-3, 6)
	for _, s := range shapes() {
		for _, pick := range sorts {
			count[wantsGos(t, s.one(pick))]++
			count[wantsGos(t, s.task(pick, plain, plain))]++
			count[wantsGos(t, s.task(plain, pick, plain))]++
			count[wantsGos(t, s.task(plain, plain, pick))]++
			count[wantsGos(t, s.task(plain, pick, pick))]++
			count[wantsGos(t, s.task(some(), some(), some()))]++
		}
	}
	for _, what := range []string{"", "factors", "flat", "c", "e", "other factors", "other flat", "w", "f", "x"} { // that y alone is too great is rare: see TestP21_2NoY
		if count[what] < 60 {
			t.Errorf("what failed: %v", count)
		}
	}
}

// TestP21_2Greatest: a and b of just MaxDim rows, each of them of just MaxDim columns, or both.
func TestP21_2Greatest(t *testing.T) {
	d := dice(2102)
	for k := range api.MaxDim + 1 {
		for _, pick := range d.sorts() {
			wantsGos(t, shape{api.MaxDim, api.MaxDim, k}.one(pick))
			wantsGos(t, shape{api.MaxDim, k, api.MaxDim}.one(pick))
			wantsGos(t, shape{k, k, api.MaxDim}.one(pick))
			wantsGos(t, shape{k, 0, api.MaxDim}.one(pick))
		}
	}
}

// TestP21_2SizesUnlike: each row of a, b and d, and each column, times a power of two of its own.
func TestP21_2SizesUnlike(t *testing.T) {
	d := dice(2103)
	scaled := func(m api.Matrix, rows, columns []int) api.Matrix {
		m = clone(m)
		for i := range m.Rows {
			for k := range m.Cols {
				*at(m, i, k) += power(columns[k]+rows[i]) - api.One
			}
		}
		return m
	}
	powers := func(n int) []int {
		var list []int
		for range n {
			list = append(list, d.below(21)-10)
		}
		return list
	}
	count := map[string]int{}
	for _, s := range shapes() {
		for range 10 {
			task := s.one(d.near(-3, 6))
			rows := powers(s.n)
			task.A, task.B, task.D = scaled(task.A, rows, powers(s.m)), scaled(task.B, rows, powers(s.p)), scaled(task.D, rows, powers(1))
			count[wantsGos(t, task)]++
		}
	}
	if count[""] < 1000 {
		t.Errorf("what failed: %v", count)
	}
}

// TestP21_2Hanging: a's columns hang on one another, or nearly so, or b's rows do, or what is left of b's rows, so that roundings say whether there is an answer; those stand beside parts of whole numbers, and of any.
func TestP21_2Hanging(t *testing.T) {
	d := dice(2104)
	count := map[string]int{}
	picks := []func() api.Bits{d.small(1), d.near(-3, 6), d.small(3)}
	for i, s := range shapes() {
		for e := 0; e < 50; e += 2 {
			task := s.one(picks[(i+e)%3])
			if s.m > 0 {
				count[wantsGos(t, with(task, 0, turned(d.hanging(turned(task.A)))))]++
			}
			if s.m > 1 {
				count[wantsGos(t, with(task, 0, turned(d.leaning(turned(task.A), e))))]++
			}
			if s.n > 0 {
				count[wantsGos(t, with(task, 1, d.hanging(task.B)))]++
			}
			if s.n > 1 {
				count[wantsGos(t, with(task, 1, d.leaning(task.B, e)))]++
			}
			if s.m > 0 && s.p > 0 { // a column of b is one of a's
				b := clone(task.B)
				for i := range s.n {
					*at(b, i, s.p-1) = *at(task.A, i, 0)
				}
				count[wantsGos(t, with(task, 1, b))]++
			}
		}
	}
	if count[""] < 5000 || count["flat"] < 2500 || count["other flat"] < 250 {
		t.Errorf("what failed: %v", count)
	}
}

// TestP21_2Noughts: noughts of either sign in d, in some of b's numbers and of a's, and in all of b.
func TestP21_2Noughts(t *testing.T) {
	d := dice(2105)
	nought := d.out(noughts())
	for _, s := range shapes() {
		for range 5 {
			task := s.one(d.near(-3, 6))
			wantsGos(t, with(task, 2, picked(s.n, 1, nought)))
			wantsGos(t, with(task, 2, picked(s.n, 1, d.sparse(d.small(2)))))
			wantsGos(t, with(task, 1, picked(s.n, s.p, nought)))
			wantsGos(t, with(task, 1, picked(s.n, s.p, d.sparse(d.small(2)))))
			wantsGos(t, with(task, 0, picked(s.n, s.m, d.sparse(d.small(2)))))
			wantsGos(t, with(with(task, 1, picked(s.n, s.p, nought)), 2, picked(s.n, 1, nought)))
			wantsGos(t, s.one(d.sparse(d.small(2))))
		}
	}
}

// TestP21_2ByHand: where nothing is rounded, since each row names one number of x, or what hangs on one of y.
func TestP21_2ByHand(t *testing.T) {
	for _, c := range []struct {
		task gglm.Task
		x, y api.Matrix
	}{
		{gglm.Task{A: wholes(2, 1, 1, 0), B: wholes(2, 2, 1, 0, 0, 1), D: wholes(2, 1, 3, 5)}, wholes(1, 1, 3), wholes(2, 1, 0, 5)}, // x spares the first error
		{gglm.Task{A: wholes(2, 1, 2, 0), B: wholes(2, 1, 3, 4), D: wholes(2, 1, 10, 8)}, wholes(1, 1, 2), wholes(1, 1, 2)},         // n just m + p: there is but one
		{gglm.Task{A: wholes(1, 1, 2), B: of(1, 0), D: wholes(1, 1, 6)}, wholes(1, 1, 3), of(0, 1)},
		{gglm.Task{A: wholes(1, 1, 2), B: wholes(1, 2, 5, 7), D: wholes(1, 1, 6)}, wholes(1, 1, 3), wholes(2, 1, 0, 0)}, // x explains all
		{gglm.Task{A: of(1, 0), B: wholes(1, 1, 4), D: wholes(1, 1, 8)}, of(0, 1), wholes(1, 1, 2)},
		{gglm.Task{A: of(1, 0), B: wholes(1, 3, 0, 0, 4), D: wholes(1, 1, 8)}, of(0, 1), wholes(3, 1, 0, 0, 2)},
		{gglm.Task{A: of(2, 0), B: wholes(2, 2, 1, 0, 1, 1), D: wholes(2, 1, 3, 5)}, of(0, 1), wholes(2, 1, 3, 2)},
		{gglm.Task{A: wholes(2, 2, 2, 1, 0, 1), B: wholes(2, 1, 1, 1), D: wholes(2, 1, 5, 3)}, wholes(2, 1, 1, 3), wholes(1, 1, 0)},
		{gglm.Task{A: wholes(3, 1, 0, 1, 0), B: wholes(3, 2, 2, 0, 1, 1, 0, 4), D: wholes(3, 1, 6, 4, -8)}, wholes(1, 1, 3), wholes(2, 1, 3, -2)},
		{gglm.Task{A: of(0, 0), B: of(0, 3), D: of(0, 1)}, of(0, 1), wholes(3, 1, 0, 0, 0)}, // no row: nothing is to be explained
		{gglm.Task{A: of(0, 0), B: of(0, 0), D: of(0, 1)}, of(0, 1), of(0, 1)},
	} {
		if x, y, e := gglm.Solve(c.task); !alike(x, c.x) || !alike(y, c.y) || e != api.OK {
			t.Errorf("Solve of\n%sx %s\ny %s\n%v; wanted\nx %s\ny %s", showTask(c.task), show(x), show(y), e, show(c.x), show(c.y))
		}
		wantsGos(t, c.task)
	}
}

// isNearly tells whether got is want but for a part of 2^-50.
func isNearly(want, got api.Matrix) bool {
	off, e := certify.Residual(want, eye(want.Rows), got)
	size, _ := certify.Square(want)
	near, _ := certify.Within(off, size, 50)
	return near && e == api.OK
}

// TestP21_2Example: the chapter's: x is 1, and y is -1, 1, but for roundings.
func TestP21_2Example(t *testing.T) {
	x, y, e := gglm.Solve(gglm.Task{A: wholes(2, 1, 1, 1), B: eye(2), D: wholes(2, 1, 0, 2)})
	if !isNearly(wholes(1, 1, 1), x) || !isNearly(wholes(2, 1, -1, 1), y) || e != api.OK {
		t.Errorf("%s, %s, %v", show(x), show(y), e)
	}
}

// byLayers is a task that has an answer, done by the calls of the layers below.
func byLayers(t *testing.T, task gglm.Task) (x, y api.Matrix) {
	t.Helper()
	n, m, p := task.A.Rows, task.A.Cols, task.B.Cols
	k := n - m
	fine := func(m api.Matrix, e api.Errno) api.Matrix {
		if e != api.OK {
			t.Errorf("of\n%sa call of the layers below: %v", showTask(task), e)
		}
		return m
	}
	q, r, e := qr.Factor(task.A)
	upright := fine(matrix.Turn(fine(q, e)))
	c := fine(matrix.Mul(upright, task.D))
	through := fine(matrix.Mul(upright, task.B))
	l, o, e := rq.Lq(fine(matrix.Part(through, m, 0, k, p)))
	w := fine(solve.Lower(fine(matrix.Part(fine(l, e), 0, 0, k, k)), fine(matrix.Part(c, m, 0, k, 1))))
	y = fine(matrix.Mul(fine(matrix.Turn(fine(matrix.Part(o, 0, 0, k, p)))), w))
	f := fine(matrix.Sub(fine(matrix.Part(c, 0, 0, m, 1)), fine(matrix.Mul(fine(matrix.Part(through, 0, 0, m, p)), y))))
	return fine(solve.Upper(fine(matrix.Part(r, 0, 0, m, m)), f)), y
}

// TestP1ByLayersBelow: what is told is what the calls of the layers below come to.
func TestP1ByLayersBelow(t *testing.T) {
	d := dice(2106)
	told := 0
	for _, s := range shapes() {
		for _, pick := range d.middle() {
			task := s.task(d.near(-3, 6), d.near(-3, 6), pick)
			if gosSolve(task).err == api.OK {
				x, y := byLayers(t, task)
				wants(t, task, x, y)
				told++
			}
		}
	}
	if told < 1500 {
		t.Errorf("%d answers", told)
	}
}

// TestP21_2Sizes: as many numbers in x as a has columns, and in y as b has, each in one column.
func TestP21_2Sizes(t *testing.T) {
	d := dice(2107)
	for _, s := range shapes() {
		x, y, e := gglm.Solve(s.one(d.near(-3, 6)))
		if x.Rows != s.m || x.Cols != 1 || len(x.Data) != s.m || y.Rows != s.p || y.Cols != 1 || len(y.Data) != s.p || e != api.OK {
			t.Errorf("of %v: %s, %s, %v", s, show(x), show(y), e)
		}
	}
}
