package lse_test

import (
	"testing"

	"dioptra/api"
	"dioptra/certify"
	"dioptra/lse"
)

// badNumbers are such as would be another error, if the matrix were right.
func badNumbers() []api.Bits {
	return []api.Bits{api.One, api.Zero, api.Inf, api.NegInf, api.NaN, greatest}
}

// tasks are right ones of several shapes: such as have an answer, such as are flat, and such as are too great.
func tasks() []lse.Task {
	d := dice(2010)
	var list []lse.Task
	for _, s := range []shape{{0, 0, 0}, {2, 0, 0}, {0, 1, 1}, {1, 1, 0}, {1, 2, 1}, {2, 3, 1}, {3, 3, 3}, {6, 6, 0}, {0, 6, 6}, {6, 6, 6}} {
		list = append(list, s.one(d.near(-3, 6)), s.one(d.out(noughts())), s.one(d.out([]api.Bits{greatest})))
	}
	return list
}

// others are matrices to stand in the other parts: such as don't go together with them, such as are not right, and such as are not finite.
func others() []api.Matrix {
	return []api.Matrix{{}, of(-1, 1), of(2, 2, api.One), filled(7, 1, api.One), filled(2, 2, api.NaN), filled(1, 1, api.Inf), filled(6, 6, api.Zero), filled(3, 2, greatest)}
}

// TestP20_1Form: a part that is not right: of sizes out of their range, of Data that is too short or too long, whatever stands in it; the parts before it may be asked, those behind it are of any kind.
func TestP20_1Form(t *testing.T) {
	d, from, behind := dice(2011), tasks(), others()
	for _, b := range badNumbers() {
		for _, m := range append(wrong(b), justWrong(b)...) {
			for i := range 4 {
				task := with(from[d.below(len(from))], i, m)
				refused(t, task, api.ErrForm)
				for k := i + 1; k < 4; k++ {
					task = with(task, k, behind[d.below(len(behind))])
					refused(t, task, api.ErrForm)
				}
			}
		}
	}
}

// TestP20_1Finite: one number that is not finite, at each place of each part; before what is wrong with the parts behind it, and before all of shapes, flatness and greatness.
func TestP20_1Finite(t *testing.T) {
	d := dice(2012)
	for _, from := range tasks() {
		for i, m := range parts(from) {
			for place := range m.Data {
				for _, none := range notFinite() {
					bad := clone(m)
					bad.Data[place] = none
					task := with(from, i, bad)
					refused(t, task, api.ErrFinite)
					for k := i + 1; k < 4; k++ {
						task = with(task, k, others()[d.below(len(others()))])
						refused(t, task, api.ErrFinite)
					}
				}
			}
		}
	}
}

// TestP20_1FiniteAnySize: of parts that don't go together, too.
func TestP20_1FiniteAnySize(t *testing.T) {
	d := dice(2013)
	for _, s := range sizes() {
		for place := range s[0] * s[1] {
			for i := range 4 {
				bad := picked(s[0], s[1], d.near(-3, 6))
				bad.Data[place] = d.out(notFinite())()
				refused(t, with(tasks()[d.below(len(tasks()))], i, bad), api.ErrFinite)
			}
		}
	}
}

// first is what the certifying layer says of the first of the parts that may not be asked.
func first(task lse.Task) api.Errno {
	for _, m := range parts(task) {
		if e := certify.Check(m); e != api.OK {
			return e
		}
	}
	return api.OK
}

// TestP20_1AsCheckSays: the errors of what may not be asked are those of the certifying layer, of the four in their order.
func TestP20_1AsCheckSays(t *testing.T) {
	list := append(justWrong(api.One)[:3], of(7, 1, filled(7, 1, api.NaN).Data...), of(2, 2, api.Inf), filled(1, 1, api.Inf), filled(2, 3, api.NaN), of(2, 1, api.One, api.NegInf), of(0, 0), of(0, 1), eye(1), eye(2), of(2, 1, api.One, api.One), filled(3, 3, greatest))
	count := map[api.Errno]int{}
	for _, a := range list {
		for _, b := range list {
			for _, c := range list {
				for _, d := range list {
					task := lse.Task{A: a, B: b, C: c, D: d}
					e := first(task)
					count[e]++
					if e != api.OK {
						refused(t, task, e)
					}
				}
			}
		}
	}
	if count[api.OK] < 1000 || count[api.ErrForm] < 10000 || count[api.ErrFinite] < 10000 {
		t.Errorf("which errors: %v", count)
	}
}

// isShape tells whether parts of these sizes are those of a task.
func isShape(a, b, c, d [2]int) bool {
	for _, s := range shapes() {
		if a == [2]int{s.m, s.n} && b == [2]int{s.p, s.n} && c == [2]int{s.m, 1} && d == [2]int{s.p, 1} {
			return true
		}
	}
	return false
}

// TestP20_1Shape: all sizes of a with all of b, each with c and d of as many rows, one more and one fewer, of no column, of one and of two; before what else may be wrong.
func TestP20_1Shape(t *testing.T) {
	right := 0
	for n, a := range sizes() {
		for k, b := range sizes() {
			number := []api.Bits{api.One, api.NegZero, greatest, least}[(n+k)%4]
			for by := range 81 {
				c := [2]int{a[0] + by%3 - 1, by / 3 % 3}
				d := [2]int{b[0] + by/9%3 - 1, by / 27}
				if min(c[0], d[0]) < 0 || max(c[0], d[0]) > api.MaxDim {
					continue
				}
				task := lse.Task{A: filled(a[0], a[1], number), B: filled(b[0], b[1], number), C: filled(c[0], c[1], number), D: filled(d[0], d[1], number)}
				if !isShape(a, b, c, d) {
					refused(t, task, api.ErrShape)
					continue
				}
				right++
				wantsGos(t, task)
			}
		}
	}
	if right != len(shapes()) {
		t.Errorf("%d of the shapes are right", right)
	}
}

// TestP20_1ShapeFar: c and d of any sizes.
func TestP20_1ShapeFar(t *testing.T) {
	d := dice(2014)
	for _, s := range shapes() {
		for _, size := range sizes() {
			task := s.one(d.near(-3, 6))
			if size != [2]int{s.m, 1} {
				refused(t, with(task, 2, picked(size[0], size[1], d.near(-3, 6))), api.ErrShape)
			}
			if size != [2]int{s.p, 1} {
				refused(t, with(task, 3, picked(size[0], size[1], d.near(-3, 6))), api.ErrShape)
			}
		}
	}
}

// TestP20_1Counts: n just m + p, and one more; p just n, and one more; a of no rows, b of no rows, and both; one column, and none.
func TestP20_1Counts(t *testing.T) {
	for _, c := range []struct {
		m, n, p int
		right   bool
	}{
		{2, 5, 3, true}, {2, 6, 3, false}, {0, 3, 3, true}, {0, 4, 3, false}, {3, 3, 0, true}, {3, 4, 0, false}, {6, 6, 0, true}, {5, 6, 0, false},
		{0, 2, 2, true}, {0, 2, 3, false}, {6, 2, 3, false}, {0, 6, 6, true}, {0, 5, 6, false}, {6, 5, 6, false}, {6, 6, 6, true},
		{0, 0, 0, true}, {1, 0, 0, true}, {6, 0, 0, true}, {0, 0, 1, false}, {6, 0, 6, false},
		{0, 1, 0, false}, {1, 1, 0, true}, {0, 1, 1, true}, {1, 1, 1, true}, {1, 1, 2, false}, {6, 1, 1, true},
	} {
		task := shape{c.m, c.n, c.p}.one(func() api.Bits { return three })
		if !c.right {
			refused(t, task, api.ErrShape)
		} else if e := lse.Check(task); e != api.OK {
			t.Errorf("Check of %v: %v", c, e)
		}
	}
}

// TestP20_1NotSolved: Check has nothing to say of what Solve finds on its way.
func TestP20_1NotSolved(t *testing.T) {
	for _, s := range shapes() {
		for _, b := range finites() {
			if e := lse.Check(s.one(func() api.Bits { return b })); e != api.OK {
				t.Errorf("Check of %v, all numbers %x: %v", s, b, e)
			}
		}
	}
}
