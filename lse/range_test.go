package lse_test

import (
	"testing"

	"dioptra/api"
	"dioptra/lse"
	"dioptra/qr"
	"dioptra/solve"
)

// wider is a task with so many more numbers in x that the equations leave open, each asked by a row of a of its own, and so many more that an equation of its own fixes; all of these are to be One.
func wider(t lse.Task, open, fixed int) lse.Task {
	n := t.A.Cols
	grown := func(m api.Matrix, rows, from int) api.Matrix {
		g := filled(m.Rows+rows, n+open+fixed, api.Zero)
		for i := range m.Rows {
			for k := range n {
				*at(g, i, k) = *at(m, i, k)
			}
		}
		for i := range rows {
			*at(g, m.Rows+i, from+i) = api.One
		}
		return g
	}
	longer := func(m api.Matrix, rows int) api.Matrix {
		return of(m.Rows+rows, 1, append(clone(m).Data, filled(rows, 1, api.One).Data...)...)
	}
	return lse.Task{A: grown(t.A, open, n), B: grown(t.B, fixed, n+open), C: longer(t.C, open), D: longer(t.D, fixed)}
}

// failsAt looks after the error, and after what it is that could not be, of a task alone, and of the task with more numbers in x, as far as these fit; of those what could not be is the same where the added numbers are not great beside the task's.
func failsAt(t *testing.T, what string, task lse.Task, grows bool) {
	t.Helper()
	if seen := wantsGos(t, task); seen != what {
		t.Errorf("Solve of\n%s%q failed; wanted %q", showTask(task), seen, what)
	}
	for open := range api.MaxDim + 1 - max(task.A.Rows, task.A.Cols) {
		for fixed := range api.MaxDim + 1 - max(task.B.Rows, task.A.Cols+open) {
			wide := wider(task, open, fixed)
			if seen := wantsGos(t, wide); grows && seen != what {
				t.Errorf("Solve of\n%s%q failed; wanted %q", showTask(wide), seen, what)
			}
		}
	}
}

// TestP20_2NoFactors: b turned has a mirror that can't be made, in its first column or in a later one, or r has a number that is not finite; before ErrRank, though the rows are alike.
func TestP20_2NoFactors(t *testing.T) {
	for _, second := range []api.Bits{greatest, minus(greatest), power(1022), least} {
		b := of(1, 2, greatest, second)
		failsAt(t, "factors", lse.Task{A: wholes(1, 2, 1, 2), B: b, C: wholes(1, 1, 3), D: wholes(1, 1, 4)}, true)
		failsAt(t, "factors", lse.Task{A: of(0, 2), B: of(2, 2, greatest, second, greatest, second), C: of(0, 1), D: wholes(2, 1, 4, 4)}, true)
		failsAt(t, "factors", lse.Task{A: of(1, 2, greatest, greatest), B: b, C: of(1, 1, greatest), D: of(1, 1, greatest)}, true)
		failsAt(t, "factors", lse.Task{A: wholes(1, 3, 1, 2, 3), B: of(2, 3, api.One, api.Zero, api.Zero, api.Zero, greatest, second), C: wholes(1, 1, 3), D: wholes(2, 1, 4, 5)}, true)
		failsAt(t, "factors", lse.Task{A: wholes(1, 3, 1, 2, 3), B: of(2, 3, api.Zero, api.NegZero, api.Zero, api.One, greatest, second), C: wholes(1, 1, 3), D: wholes(2, 1, 4, 5)}, true)
	}
	b := of(2, 2, api.One, api.One, greatest, greatest)
	if _, _, e := qr.Factor(turned(b)); e != api.ErrRange {
		t.Errorf("Factor of %s: %v", show(turned(b)), e)
	}
	failsAt(t, "factors", lse.Task{A: of(0, 2), B: b, C: of(0, 1), D: wholes(2, 1, 4, 4)}, true)
}

// TestP20_2OneColumnHasFactors: of one column there is no mirror, so that the greatest number is let be.
func TestP20_2OneColumnHasFactors(t *testing.T) {
	for _, sign := range noughts() {
		b := of(1, 1, greatest^sign)
		wants(t, lse.Task{A: of(0, 1), B: b, C: of(0, 1), D: b}, of(1, 1, api.One))
		wants(t, lse.Task{A: wholes(1, 1, 3), B: b, C: wholes(1, 1, 5), D: b}, of(1, 1, api.One))
		wants(t, lse.Task{A: b, B: of(0, 1), C: b, D: of(0, 1)}, of(1, 1, api.One))
	}
}

// TestP20_2Flat: b of noughts of either sign, two of its rows alike, one a row's multiple, one next to nothing beside another; whatever a, c and d are, though y, e or f would be too great, and though a's columns hang on one another.
func TestP20_2Flat(t *testing.T) {
	flats := []api.Matrix{
		filled(1, 2, api.Zero), filled(1, 2, api.NegZero), of(1, 2, api.Zero, api.NegZero), filled(2, 2, api.NegZero),
		wholes(2, 2, 1, 1, 1, 1), wholes(2, 2, 3, 4, 3, 4), wholes(2, 2, 1, 2, 3, 6), wholes(2, 2, 1, 2, -1, -2), wholes(2, 2, 2, 4, 1, 2),
		wholes(2, 2, 0, 0, 1, 2), wholes(2, 2, 1, 2, 0, 0), of(2, 2, api.One, api.Zero, api.Zero, power(-40)), of(2, 2, power(-40), api.Zero, api.Zero, minus(api.One)), of(2, 2, api.One, api.Zero, api.Zero, least), of(2, 2, api.One, three, minus(least), least),
		wholes(2, 3, 1, 2, 3, 1, 2, 3), wholes(3, 3, 1, 2, 3, 4, 5, 6, 7, 8, 9), wholes(3, 3, 1, 0, 0, 0, 1, 0, 1, 1, 0), wholes(2, 4, 1, 1, 1, 1, -2, -2, -2, -2),
	}
	for _, b := range flats {
		n, p := b.Cols, b.Rows
		for _, m := range []int{n - p, n, api.MaxDim} {
			for _, number := range []api.Bits{api.One, api.Zero, greatest, least} {
				for _, side := range []api.Bits{api.One, api.Zero, greatest, minus(greatest)} {
					task := lse.Task{A: filled(m, n, number), B: b, C: filled(m, 1, side), D: filled(p, 1, side)}
					failsAt(t, "flat", task, p > 1 || len(b.Data) > 0 && b.Data[0]&^api.NegZero == 0)
				}
			}
		}
	}
	for _, low := range []api.Bits{power(-40) + 1, minus(power(-39)), power(-20)} { // only just not flat
		task := lse.Task{A: of(0, 2), B: of(2, 2, api.One, api.Zero, api.Zero, low), C: of(0, 1), D: of(2, 1, three, low)}
		wants(t, task, of(2, 1, three, api.One))
	}
}

// TestP20_2AloneNeverFlat: one equation of one number, be it the least one, is not next to nothing.
func TestP20_2AloneNeverFlat(t *testing.T) {
	for _, b := range finites() {
		task := lse.Task{A: of(0, 1), B: of(1, 1, b), C: of(0, 1), D: of(1, 1, b)}
		if float(b) == 0 {
			fails(t, task, api.ErrRank)
		} else {
			wants(t, task, of(1, 1, api.One))
		}
	}
}

// TestP20_2NoY: the triangle's answer is too great; before ErrRank, though a's columns hang on one another.
func TestP20_2NoY(t *testing.T) {
	for _, side := range []api.Bits{greatest, minus(greatest), api.One} {
		failsAt(t, "y", lse.Task{A: wholes(1, 2, 1, 2), B: of(1, 2, least, api.Zero), C: wholes(1, 1, 3), D: of(1, 1, side)}, false)
		failsAt(t, "y", lse.Task{A: filled(1, 2, api.Zero), B: of(1, 2, least, api.Zero), C: wholes(1, 1, 3), D: of(1, 1, side)}, false)
		failsAt(t, "y", lse.Task{A: filled(3, 3, api.One), B: of(1, 3, api.Zero, least, api.Zero), C: wholes(3, 1, 3, 3, 3), D: of(1, 1, side)}, false)
		failsAt(t, "y", lse.Task{A: of(0, 1), B: of(1, 1, least), C: of(0, 1), D: of(1, 1, side)}, false)
		failsAt(t, "y", lse.Task{A: of(1, 1, greatest), B: of(1, 1, least), C: of(1, 1, greatest), D: of(1, 1, side)}, false)
	}
	failsAt(t, "y", lse.Task{A: filled(1, 3, api.Zero), B: of(2, 3, api.One, api.Zero, api.Zero, greatest, api.One, api.Zero), C: wholes(1, 1, 1), D: of(2, 1, two, api.One)}, false) // one of the products is too great
}

// TestP20_2NoE: a times q is too great, in a column of e1's, or of e2's; before ErrRank, though a's columns hang on one another.
func TestP20_2NoE(t *testing.T) {
	for _, sign := range noughts() {
		big := greatest ^ sign
		failsAt(t, "e", lse.Task{A: of(1, 2, big, big), B: wholes(1, 2, 1, 1), C: wholes(1, 1, 1), D: wholes(1, 1, 0)}, true)
		failsAt(t, "e", lse.Task{A: of(1, 2, big, minus(big)), B: wholes(1, 2, 1, 1), C: wholes(1, 1, 1), D: wholes(1, 1, 0)}, true)
		failsAt(t, "e", lse.Task{A: of(3, 3, api.Zero, api.Zero, api.Zero, big, big, api.Zero, api.Zero, api.Zero, api.Zero), B: wholes(1, 3, 1, 1, 0), C: wholes(3, 1, 1, 1, 1), D: wholes(1, 1, 0)}, true)
		failsAt(t, "e", lse.Task{A: of(1, 2, big, big), B: wholes(2, 2, 1, 1, 1, -1), C: wholes(1, 1, 1), D: wholes(2, 1, 0, 0)}, true) // e is asked though the equations fix all
	}
}

// TestP20_2NoF: c less e1 times y is too great, the product is, or it is no number; before ErrRank, though e2 is of noughts.
func TestP20_2NoF(t *testing.T) {
	for _, sign := range noughts() {
		big := greatest ^ sign
		failsAt(t, "f", lse.Task{A: of(1, 2, big, api.One), B: wholes(1, 2, 1, 0), C: of(1, 1, big), D: wholes(1, 1, -1)}, true)
		failsAt(t, "f", lse.Task{A: of(1, 2, big, api.Zero), B: wholes(1, 2, 1, 0), C: of(1, 1, api.One), D: wholes(1, 1, 2)}, true)
		failsAt(t, "f", lse.Task{A: of(1, 3, big, big, api.Zero), B: wholes(2, 3, 1, 0, 0, 0, 1, 0), C: of(1, 1, api.One), D: wholes(2, 1, 2, -2)}, true)
		failsAt(t, "f", lse.Task{A: of(1, 1, big), B: wholes(1, 1, 1), C: of(1, 1, big), D: wholes(1, 1, -1)}, true)
		failsAt(t, "f", lse.Task{A: of(3, 1, api.One, api.One, big), B: wholes(1, 1, 1), C: of(3, 1, api.One, api.One, big), D: wholes(1, 1, -1)}, true)
	}
	greats := lse.Task{A: of(1, 2, greatest, api.One), B: wholes(1, 2, 1, 0), C: of(1, 1, greatest), D: wholes(1, 1, 1)}
	wants(t, greats, of(2, 1, api.One, api.Zero)) // their difference is none
}

// TestP20_2NotLeast: of e2 there are no factors, it is flat, a number of its q turned, times f, is not finite, or z is not.
func TestP20_2NotLeast(t *testing.T) {
	none := of(0, 1)
	for _, sign := range noughts() {
		big := greatest ^ sign
		failsAt(t, "least: factors", lse.Task{A: of(2, 1, greatest, big), B: of(0, 1), C: wholes(2, 1, 1, 2), D: none}, true)
		failsAt(t, "least: factors", lse.Task{A: of(2, 2, api.Zero, greatest, api.Zero, big), B: wholes(1, 2, 1, 0), C: wholes(2, 1, 1, 2), D: wholes(1, 1, 1)}, true)
		failsAt(t, "least: side", lse.Task{A: wholes(2, 1, 1, 1), B: of(0, 1), C: of(2, 1, big, big), D: none}, true)
		failsAt(t, "least: side", lse.Task{A: wholes(2, 2, 0, 1, 0, 1), B: wholes(1, 2, 1, 0), C: of(2, 1, big, big), D: wholes(1, 1, 1)}, true)
		failsAt(t, "least: x", lse.Task{A: of(1, 1, least), B: of(0, 1), C: of(1, 1, big), D: none}, false)
		failsAt(t, "least: x", lse.Task{A: of(1, 2, api.Zero, half), B: wholes(1, 2, 1, 0), C: of(1, 1, big), D: wholes(1, 1, 1)}, true)
	}
	for _, a := range []api.Matrix{filled(2, 2, api.Zero), filled(2, 2, api.NegZero), wholes(2, 2, 1, 0, 1, 0), wholes(2, 2, 0, 0, 5, 0), of(2, 2, greatest, api.Zero, greatest, api.NegZero)} {
		failsAt(t, "least: flat", lse.Task{A: a, B: wholes(1, 2, 1, 0), C: wholes(2, 1, 1, 2), D: wholes(1, 1, 1)}, true) // beside b's row a has no column
	}
	failsAt(t, "least: flat", lse.Task{A: wholes(1, 2, 1, 0), B: wholes(1, 2, 1, 0), C: wholes(1, 1, 1), D: wholes(1, 1, 1)}, true)
	failsAt(t, "least: flat", lse.Task{A: wholes(2, 2, 1, 2, 2, 4), B: of(0, 2), C: wholes(2, 1, 1, 2), D: none}, true)
	failsAt(t, "least: flat", lse.Task{A: wholes(3, 3, 1, 1, 1, 2, 2, 2, 3, 3, 3), B: wholes(1, 3, 1, 0, 0), C: wholes(3, 1, 1, 2, 3), D: wholes(1, 1, 1)}, true)
	failsAt(t, "least: flat", lse.Task{A: of(2, 2, api.One, api.One, api.Zero, power(-41)), B: of(0, 2), C: wholes(2, 1, 1, 2), D: none}, true)
	failsAt(t, "least: flat", lse.Task{A: of(2, 2, least, least, least, least), B: of(0, 2), C: of(2, 1, greatest, greatest), D: none}, true) // before that z would be too great
}

// TestP20_2NoX: y and z are finite, and q times them is not, in one row of x or in the other.
func TestP20_2NoX(t *testing.T) {
	big := says(0.7 * float(greatest)) // by the root of a half it is still not too great
	for _, one := range noughts() {
		for _, other := range noughts() {
			task := lse.Task{A: of(1, 2, half, minus(half)), B: of(1, 2, half, half), C: of(1, 1, big^one), D: of(1, 1, big^other)}
			failsAt(t, "x", task, true)
			task.C, task.D = of(1, 1, power(1022)^one), of(1, 1, power(1022)^other)
			if seen := wantsGos(t, task); seen != "" {
				t.Errorf("Solve of\n%s%q failed", showTask(task), seen)
			}
		}
	}
}

// TestP20_2GreatestFits: the greatest numbers, where nothing on the way is greater.
func TestP20_2GreatestFits(t *testing.T) {
	for n := 1; n <= api.MaxDim; n++ {
		for p := range n + 1 {
			for _, b := range []api.Bits{greatest, minus(greatest), least, minus(least)} {
				a, e := filled(n-p, n, api.Zero), filled(p, n, api.Zero)
				for i := range n - p {
					*at(a, i, p+i) = b
				}
				for i := range p {
					*at(e, i, i) = b
				}
				wants(t, lse.Task{A: a, B: e, C: filled(n-p, 1, b), D: filled(p, 1, b)}, filled(n, 1, api.One))
				for i := range a.Data {
					if float(a.Data[i]) != 0 {
						a.Data[i] = api.One
					}
				}
				for i := range e.Data {
					if float(e.Data[i]) != 0 {
						e.Data[i] = api.One
					}
				}
				wants(t, lse.Task{A: a, B: e, C: filled(n-p, 1, b), D: filled(p, 1, b)}, filled(n, 1, b))
			}
		}
	}
}

// TestP20_2AsLayersSay: where the way ends at a call of the layers below, its error is told.
func TestP20_2AsLayersSay(t *testing.T) {
	d := dice(2020)
	sorts := d.sorts()
	some := func() func() api.Bits { return sorts[d.below(len(sorts))] }
	count := map[api.Errno]int{}
	for _, s := range shapes() {
		for range 20 {
			task := s.task(some(), some(), some(), some())
			_, e := lse.Solve(task)
			_, r, f := qr.Factor(turned(task.B))
			if f != api.OK {
				if e != f {
					t.Errorf("Solve of\n%s%v; Factor says %v", showTask(task), e, f)
				}
				continue
			}
			flat, _ := solve.Flat(r)
			if flat != (e == api.ErrRank && gosSolve(task).failed == "flat") {
				t.Errorf("Solve of\n%s%v; its triangle is flat: %v", showTask(task), e, flat)
			}
			if s.p == 0 {
				if _, g := solve.Least(task.A, task.C); e != g {
					t.Errorf("Solve of\n%s%v; Least says %v", showTask(task), e, g)
				}
			}
			count[e]++
		}
	}
	if count[api.OK] < 500 || count[api.ErrRank] < 300 || count[api.ErrRange] < 300 {
		t.Errorf("which errors: %v", count)
	}
}
