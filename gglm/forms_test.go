package gglm_test

import (
	"testing"

	"dioptra/api"
	"dioptra/certify"
	"dioptra/gglm"
)

// badNumbers are such as would be another error, if the matrix were right.
func badNumbers() []api.Bits {
	return []api.Bits{api.One, api.Zero, api.Inf, api.NegInf, api.NaN, greatest}
}

// tasks are right ones of several shapes: such as have an answer, such as are flat, and such as are too great.
func tasks() []gglm.Task {
	d := dice(2110)
	var list []gglm.Task
	for _, s := range []shape{{0, 0, 0}, {0, 0, 2}, {1, 0, 1}, {1, 1, 0}, {2, 1, 1}, {3, 2, 2}, {3, 3, 3}, {6, 6, 0}, {6, 0, 6}, {6, 6, 6}} {
		list = append(list, s.one(d.near(-3, 6)), s.one(d.out(noughts())), s.one(d.out([]api.Bits{greatest})))
	}
	return list
}

// others are matrices to stand in the other parts: such as don't go together with them, such as are not right, and such as are not finite.
func others() []api.Matrix {
	return []api.Matrix{{}, of(-1, 1), of(2, 2, api.One), filled(7, 1, api.One), filled(2, 2, api.NaN), filled(1, 1, api.Inf), filled(6, 6, api.Zero), filled(3, 2, greatest)}
}

// TestP21_1Form: a part that is not right: of sizes out of their range, of Data that is too short or too long, whatever stands in it; the parts before it may be asked, those behind it are of any kind.
func TestP21_1Form(t *testing.T) {
	d, from, behind := dice(2111), tasks(), others()
	for _, b := range badNumbers() {
		for _, m := range append(wrong(b), justWrong(b)...) {
			for i := range 3 {
				task := with(from[d.below(len(from))], i, m)
				refused(t, task, api.ErrForm)
				for k := i + 1; k < 3; k++ {
					task = with(task, k, behind[d.below(len(behind))])
					refused(t, task, api.ErrForm)
				}
			}
		}
	}
}

// TestP21_1Finite: one number that is not finite, at each place of each part; before what is wrong with the parts behind it, and before all of shapes, flatness and greatness.
func TestP21_1Finite(t *testing.T) {
	d := dice(2112)
	for _, from := range tasks() {
		for i, m := range parts(from) {
			for place := range m.Data {
				for _, none := range notFinite() {
					bad := clone(m)
					bad.Data[place] = none
					task := with(from, i, bad)
					refused(t, task, api.ErrFinite)
					for k := i + 1; k < 3; k++ {
						task = with(task, k, others()[d.below(len(others()))])
						refused(t, task, api.ErrFinite)
					}
				}
			}
		}
	}
}

// TestP21_1FiniteAnySize: of parts that don't go together, too.
func TestP21_1FiniteAnySize(t *testing.T) {
	d := dice(2113)
	for _, s := range sizes() {
		for place := range s[0] * s[1] {
			for i := range 3 {
				bad := picked(s[0], s[1], d.near(-3, 6))
				bad.Data[place] = d.out(notFinite())()
				refused(t, with(tasks()[d.below(len(tasks()))], i, bad), api.ErrFinite)
			}
		}
	}
}

// first is what the certifying layer says of the first of the parts that may not be asked.
func first(task gglm.Task) api.Errno {
	for _, m := range parts(task) {
		if e := certify.Check(m); e != api.OK {
			return e
		}
	}
	return api.OK
}

// TestP21_1AsCheckSays: the errors of what may not be asked are those of the certifying layer, of the three in their order.
func TestP21_1AsCheckSays(t *testing.T) {
	list := append(justWrong(api.One), of(7, 1, filled(7, 1, api.NaN).Data...), of(2, 2, api.Inf), filled(1, 1, api.Inf), filled(2, 3, api.NaN), of(2, 1, api.One, api.NegInf), of(1, 1, minus(api.NaN)), of(0, 0), of(0, 1), eye(1), eye(2), of(2, 1, api.One, api.One), filled(3, 3, greatest), filled(6, 6, api.NegZero), of(3, 1, api.Zero, greatest, least))
	count := map[api.Errno]int{}
	for _, a := range list {
		for _, b := range list {
			for _, d := range list {
				task := gglm.Task{A: a, B: b, D: d}
				e := first(task)
				count[e]++
				if e != api.OK {
					refused(t, task, e)
				}
			}
		}
	}
	if count[api.OK] < 500 || count[api.ErrForm] < 5000 || count[api.ErrFinite] < 5000 {
		t.Errorf("which errors: %v", count)
	}
}

// isShape tells whether parts of these sizes are those of a task.
func isShape(a, b, d [2]int) bool {
	for _, s := range shapes() {
		if a == [2]int{s.n, s.m} && b == [2]int{s.n, s.p} && d == [2]int{s.n, 1} {
			return true
		}
	}
	return false
}

// TestP21_1Shape: all sizes of a with all of b, each with d of as many rows, one more and one fewer, of no column, of one and of two; before what else may be wrong.
func TestP21_1Shape(t *testing.T) {
	right := 0
	for n, a := range sizes() {
		for k, b := range sizes() {
			number := []api.Bits{api.One, api.NegZero, greatest, least}[(n+k)%4]
			for by := range 9 {
				d := [2]int{a[0] + by%3 - 1, by / 3}
				if d[0] < 0 || d[0] > api.MaxDim {
					continue
				}
				task := gglm.Task{A: filled(a[0], a[1], number), B: filled(b[0], b[1], number), D: filled(d[0], d[1], number)}
				if !isShape(a, b, d) {
					refused(t, task, api.ErrShape)
					continue
				}
				right++
				wantsGos(t, task)
			}
		}
	}
	if right != len(shapes()) {
		t.Errorf("%d of the shapes are right", right)
	}
}

// TestP21_1ShapeFar: each part of any other sizes.
func TestP21_1ShapeFar(t *testing.T) {
	d := dice(2114)
	plain := d.near(-3, 6)
	for _, s := range shapes() {
		for _, size := range sizes() {
			task, m := s.one(plain), picked(size[0], size[1], plain)
			if !isShape(size, [2]int{s.n, s.p}, [2]int{s.n, 1}) {
				refused(t, with(task, 0, m), api.ErrShape)
			}
			if !isShape([2]int{s.n, s.m}, size, [2]int{s.n, 1}) {
				refused(t, with(task, 1, m), api.ErrShape)
			}
			if size != [2]int{s.n, 1} {
				refused(t, with(task, 2, m), api.ErrShape)
			}
		}
	}
}

// TestP21_1Counts: m just n, and one more; n just m + p, and one more; a of no columns, b of no columns, and both; one row, and none.
func TestP21_1Counts(t *testing.T) {
	for _, c := range []struct {
		n, m, p int
		right   bool
	}{
		{5, 2, 3, true}, {6, 2, 3, false}, {5, 2, 4, true}, {3, 0, 3, true}, {4, 0, 3, false}, {3, 3, 0, true}, {4, 3, 0, false}, {6, 6, 0, true}, {6, 5, 0, false}, {6, 0, 6, true}, {6, 0, 5, false},
		{2, 2, 0, true}, {2, 3, 0, false}, {2, 2, 6, true}, {2, 3, 6, false}, {5, 6, 0, false}, {5, 6, 6, false}, {6, 6, 6, true},
		{0, 0, 0, true}, {0, 0, 1, true}, {0, 0, 6, true}, {0, 1, 0, false}, {0, 6, 6, false},
		{1, 0, 0, false}, {1, 1, 0, true}, {1, 0, 1, true}, {1, 1, 1, true}, {1, 2, 1, false}, {1, 1, 6, true}, {1, 0, 6, true},
	} {
		task := shape{c.n, c.m, c.p}.one(func() api.Bits { return three })
		if !c.right {
			refused(t, task, api.ErrShape)
		} else if e := gglm.Check(task); e != api.OK {
			t.Errorf("Check of %v: %v", c, e)
		}
	}
}

// TestP21_1NotSolved: Check has nothing to say of what Solve finds on its way.
func TestP21_1NotSolved(t *testing.T) {
	for _, s := range shapes() {
		for _, b := range finites() {
			if e := gglm.Check(s.one(func() api.Bits { return b })); e != api.OK {
				t.Errorf("Check of %v, all numbers %x: %v", s, b, e)
			}
		}
	}
}
