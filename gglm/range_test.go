package gglm_test

import (
	"testing"

	"dioptra/api"
	"dioptra/gglm"
	"dioptra/qr"
	"dioptra/rq"
	"dioptra/solve"
)

// wider is a task with so many more rows, each explained by a number of x of its own, and so many more, each by a number of y of its own; all of these numbers are to be One.
func wider(t gglm.Task, explained, through int) gglm.Task {
	n := t.A.Rows
	grown := func(m api.Matrix, cols, from int) api.Matrix {
		g := filled(n+explained+through, m.Cols+cols, api.Zero)
		for i := range n {
			for k := range m.Cols {
				*at(g, i, k) = *at(m, i, k)
			}
		}
		for i := range cols {
			*at(g, from+i, m.Cols+i) = api.One
		}
		return g
	}
	side := append(clone(t.D).Data, filled(explained+through, 1, api.One).Data...)
	return gglm.Task{A: grown(t.A, explained, n), B: grown(t.B, through, n+explained), D: of(len(side), 1, side...)}
}

// failsAt looks after the error, and after what it is that could not be, of a task alone, and of the task with more rows, as far as these fit; of those what could not be is the same where the added numbers are not great beside the task's.
func failsAt(t *testing.T, what string, task gglm.Task, grows bool) {
	t.Helper()
	if seen := wantsGos(t, task); seen != what {
		t.Errorf("Solve of\n%s%q failed; wanted %q", showTask(task), seen, what)
	}
	for explained := range api.MaxDim + 1 - max(task.A.Rows, task.A.Cols) {
		for through := range api.MaxDim + 1 - max(task.B.Cols, task.A.Rows+explained) {
			wide := wider(task, explained, through)
			if seen := wantsGos(t, wide); grows && seen != what {
				t.Errorf("Solve of\n%s%q failed; wanted %q", showTask(wide), seen, what)
			}
		}
	}
}

// pulling are second numbers of a list that begins with the greatest one, by which it has no mirror: its norm is not finite, or the first number less it.
func pulling() []api.Bits {
	return []api.Bits{greatest, minus(greatest), power(1022), least}
}

// TestP21_2NoFactors: a has a mirror that can't be made, in its first column or in a later one, or its r has a number that is not finite; before ErrRank, though the columns are alike, or b is of noughts.
func TestP21_2NoFactors(t *testing.T) {
	for _, second := range pulling() {
		a := of(2, 1, greatest, second)
		failsAt(t, "factors", gglm.Task{A: a, B: wholes(2, 1, 1, 2), D: wholes(2, 1, 3, 4)}, true)
		failsAt(t, "factors", gglm.Task{A: a, B: of(2, 2, api.Zero, api.Zero, api.NegZero, api.Zero), D: wholes(2, 1, 3, 4)}, true)
		failsAt(t, "factors", gglm.Task{A: a, B: of(2, 1, greatest, greatest), D: of(2, 1, greatest, greatest)}, true)
		failsAt(t, "factors", gglm.Task{A: of(2, 2, greatest, greatest, second, second), B: of(2, 0), D: wholes(2, 1, 3, 4)}, true)
		failsAt(t, "factors", gglm.Task{A: of(3, 2, api.One, api.Zero, api.Zero, greatest, api.Zero, second), B: wholes(3, 1, 1, 2, 3), D: wholes(3, 1, 3, 4, 5)}, true)
		failsAt(t, "factors", gglm.Task{A: of(3, 2, api.Zero, api.Zero, api.NegZero, greatest, api.Zero, second), B: wholes(3, 1, 1, 2, 3), D: wholes(3, 1, 3, 4, 5)}, true) // before that its first column is nothing
	}
	a := of(2, 2, api.One, greatest, api.One, greatest)
	if _, _, e := qr.Factor(a); e != api.ErrRange {
		t.Errorf("Factor of %s: %v", show(a), e)
	}
	failsAt(t, "factors", gglm.Task{A: a, B: of(2, 0), D: wholes(2, 1, 4, 4)}, true)
}

// TestP21_2OneRowHasFactors: of one row there is no mirror, so that the greatest number is let be.
func TestP21_2OneRowHasFactors(t *testing.T) {
	for _, sign := range noughts() {
		big := of(1, 1, greatest^sign)
		wants(t, gglm.Task{A: big, B: of(1, 0), D: big}, of(1, 1, api.One), of(0, 1))
		wants(t, gglm.Task{A: big, B: wholes(1, 2, 3, 5), D: big}, of(1, 1, api.One), wholes(2, 1, 0, 0))
		wants(t, gglm.Task{A: of(1, 0), B: big, D: big}, of(0, 1), of(1, 1, api.One))
	}
}

// flats are matrices of no more rows than columns whose triangle, factored the other way round, is flat: of noughts of either sign, two rows alike, one a row's multiple, one next to nothing beside another.
func flats() []api.Matrix {
	return []api.Matrix{
		filled(1, 1, api.Zero), filled(1, 1, api.NegZero), filled(1, 2, api.Zero), filled(1, 2, api.NegZero), of(1, 2, api.Zero, api.NegZero), filled(2, 2, api.NegZero), filled(3, 5, api.Zero),
		wholes(2, 2, 1, 1, 1, 1), wholes(2, 2, 3, 4, 3, 4), wholes(2, 2, 1, 2, 3, 6), wholes(2, 2, 1, 2, -1, -2), wholes(2, 2, 2, 4, 1, 2),
		wholes(2, 2, 0, 0, 1, 2), wholes(2, 2, 1, 2, 0, 0), of(2, 2, api.One, api.Zero, api.Zero, power(-40)), of(2, 2, power(-40), api.Zero, api.Zero, minus(api.One)), of(2, 2, api.One, api.Zero, api.Zero, least), of(2, 2, api.One, three, minus(least), least),
		wholes(2, 3, 1, 2, 3, 1, 2, 3), wholes(3, 3, 1, 2, 3, 4, 5, 6, 7, 8, 9), wholes(3, 3, 1, 0, 0, 0, 1, 0, 1, 1, 0), wholes(2, 4, 1, 1, 1, 1, -2, -2, -2, -2),
	}
}

// TestP21_2Flat: a of noughts of either sign, two of its columns alike, one a column's multiple, one next to nothing beside another; whatever b and d are, though c, e, w, y, f or x would be too great, and though b's rows hang on one another.
func TestP21_2Flat(t *testing.T) {
	for _, columns := range flats() {
		a := turned(columns)
		n, m := a.Rows, a.Cols
		for _, p := range []int{n - m, n, api.MaxDim} {
			for _, number := range []api.Bits{api.One, api.Zero, greatest, least} {
				for _, side := range []api.Bits{api.One, api.Zero, greatest, minus(greatest)} {
					task := gglm.Task{A: a, B: filled(n, p, number), D: filled(n, 1, side)}
					failsAt(t, "flat", task, m > 1 || float(a.Data[0]) == 0)
				}
			}
		}
	}
	for _, low := range []api.Bits{power(-40) + 1, minus(power(-39)), power(-20)} { // only just not flat
		task := gglm.Task{A: of(2, 2, api.One, api.Zero, api.Zero, low), B: of(2, 0), D: of(2, 1, three, low)}
		wants(t, task, of(2, 1, three, api.One), of(0, 1))
	}
	wants(t, gglm.Task{A: of(2, 1, api.One, api.Zero), B: of(2, 1, api.Zero, power(-50)), D: of(2, 1, three, power(-50))}, of(1, 1, three), of(1, 1, api.One)) // what is left is not next to nothing beside a
}

// TestP21_2AloneNeverFlat: one column, or one row left, of one number, be it the least one, is not next to nothing.
func TestP21_2AloneNeverFlat(t *testing.T) {
	one := of(1, 1, api.One)
	for _, b := range finites() {
		number := of(1, 1, b)
		byX := gglm.Task{A: number, B: of(1, 0), D: number}
		byY := gglm.Task{A: of(1, 0), B: number, D: number}
		if float(b) == 0 {
			fails(t, byX, api.ErrRank)
			fails(t, byY, api.ErrRank)
		} else {
			wants(t, byX, one, of(0, 1))
			wants(t, byY, of(0, 1), one)
		}
	}
}

// TestP21_2NoC: q turned, times d, is too great, in what a's columns reach, or in what is left; before ErrRank, though b is of noughts.
func TestP21_2NoC(t *testing.T) {
	for _, one := range noughts() {
		for _, other := range noughts() {
			d := of(2, 1, greatest^one, greatest^other)
			for _, b := range []api.Matrix{wholes(2, 1, 1, 0), wholes(2, 2, 1, 0, 0, 1), filled(2, 1, api.Zero), filled(2, 3, api.NegZero), filled(2, 2, greatest)} {
				failsAt(t, "c", gglm.Task{A: wholes(2, 1, 1, 1), B: b, D: d}, true)
				failsAt(t, "c", gglm.Task{A: wholes(2, 1, 1, -1), B: b, D: d}, true)
			}
			failsAt(t, "c", gglm.Task{A: wholes(2, 2, 1, 0, 1, 1), B: of(2, 0), D: d}, true)
		}
	}
	failsAt(t, "c", gglm.Task{A: of(2, 1, least, least), B: filled(2, 1, api.Zero), D: of(2, 1, greatest, greatest)}, false)
}

// TestP21_2NoE: q turned, times b, is too great, in a row that a's columns reach, or in one that is left; before ErrRank, though what is left of b's rows hangs on others.
func TestP21_2NoE(t *testing.T) {
	for _, one := range noughts() {
		for _, other := range noughts() {
			b := of(2, 1, greatest^one, greatest^other)
			failsAt(t, "e", gglm.Task{A: wholes(2, 1, 1, 1), B: b, D: wholes(2, 1, 1, 2)}, true)
			failsAt(t, "e", gglm.Task{A: wholes(2, 1, 1, -1), B: b, D: wholes(2, 1, 0, 0)}, true)
			failsAt(t, "e", gglm.Task{A: wholes(2, 2, 1, 0, 1, 1), B: b, D: wholes(2, 1, 1, 2)}, true) // e is asked though x explains all
			failsAt(t, "e", gglm.Task{A: wholes(3, 1, 1, 1, 0), B: of(3, 2, b.Data[0], api.Zero, b.Data[1], api.Zero, api.Zero, api.Zero), D: wholes(3, 1, 1, 2, 3)}, true)
		}
	}
	reached := gglm.Task{A: wholes(3, 1, 3, 4, 0), B: of(3, 2, says(0.9*float(greatest)), api.Zero, greatest, api.Zero, api.Zero, api.Zero), D: wholes(3, 1, 1, 2, 3)}
	failsAt(t, "e", reached, true) // just in e1: e2 is finite, and its rows hang on one another
	q, _, _ := qr.Factor(reached.A)
	if e, _ := qr.Turned(q, reached.B); isFinite(float(*at(e, 0, 0))) || !isFinite(float(*at(e, 1, 0))) || !isFinite(float(*at(e, 2, 0))) {
		t.Errorf("e is %s", show(e))
	}
}

// TestP21_2NoOtherFactors: of e2 turned a mirror can't be made, or l has a number that is not finite; before ErrRank, though e2's rows are alike.
func TestP21_2NoOtherFactors(t *testing.T) {
	for _, second := range pulling() {
		failsAt(t, "other factors", gglm.Task{A: of(1, 0), B: of(1, 2, greatest, second), D: wholes(1, 1, 1)}, true)
		failsAt(t, "other factors", gglm.Task{A: of(2, 0), B: of(2, 2, greatest, second, greatest, second), D: wholes(2, 1, 1, 1)}, true)
		failsAt(t, "other factors", gglm.Task{A: of(2, 0), B: of(2, 3, api.One, api.Zero, api.Zero, api.Zero, greatest, second), D: wholes(2, 1, 1, 1)}, false) // with more columns in a the rows left are in another order
		failsAt(t, "other factors", gglm.Task{A: of(2, 0), B: of(2, 3, api.Zero, api.NegZero, api.Zero, api.One, greatest, second), D: wholes(2, 1, 1, 1)}, false)
		failsAt(t, "other factors", gglm.Task{A: wholes(2, 1, 1, 0), B: of(2, 2, api.One, api.Zero, greatest, second), D: wholes(2, 1, 1, 1)}, true)
	}
	b := of(2, 2, api.One, api.One, greatest, greatest)
	if _, _, e := rq.Lq(b); e != api.ErrRange {
		t.Errorf("Lq of %s: %v", show(b), e)
	}
	failsAt(t, "other factors", gglm.Task{A: of(2, 0), B: b, D: wholes(2, 1, 1, 1)}, true)
	failsAt(t, "other factors", gglm.Task{A: wholes(3, 1, 1, 0, 0), B: of(3, 2, three, four, api.One, api.One, greatest, greatest), D: wholes(3, 1, 1, 1, 1)}, true)
}

// TestP21_2OtherFlat: what is left of b's rows is of noughts, or hangs on others, whatever d is, though w, y, f or x would be too great.
func TestP21_2OtherFlat(t *testing.T) {
	for _, b := range flats() {
		n := b.Rows
		for _, side := range []api.Bits{api.One, api.Zero, greatest, minus(greatest)} {
			d := filled(n, 1, side)
			failsAt(t, "other flat", gglm.Task{A: of(n, 0), B: b, D: d}, n > 1 || float(b.Data[0]) == 0)
			if n == api.MaxDim {
				continue
			}
			for _, first := range []api.Bits{api.One, greatest, least} { // a explains the first row alone, and nothing of what is left
				a, rows := filled(n+1, 1, api.Zero), filled(1, b.Cols, first)
				a.Data[0] = first
				failsAt(t, "other flat", gglm.Task{A: a, B: of(n+1, b.Cols, append(rows.Data, b.Data...)...), D: of(n+1, 1, append(d.Data, side)...)}, false)
			}
		}
	}
	failsAt(t, "other flat", gglm.Task{A: wholes(2, 1, 1, 0), B: wholes(2, 1, 1, 0), D: wholes(2, 1, 1, 1)}, true)
	failsAt(t, "other flat", gglm.Task{A: wholes(2, 1, 1, 0), B: wholes(2, 2, 1, 1, 0, 0), D: wholes(2, 1, 1, 0)}, true) // though d needs no errors
	failsAt(t, "other flat", gglm.Task{A: of(2, 0), B: of(2, 2, least, least, least, least), D: filled(2, 1, greatest)}, false)
	for _, low := range []api.Bits{power(-40) + 1, minus(power(-39)), power(-20)} { // only just not flat
		task := gglm.Task{A: of(2, 0), B: of(2, 2, api.One, api.Zero, api.Zero, low), D: of(2, 1, three, low)}
		wants(t, task, of(0, 1), of(2, 1, three, api.One))
	}
}

// TestP21_2NoW: the lower triangle's answer is too great; before f and x, which would be so as well.
func TestP21_2NoW(t *testing.T) {
	for _, side := range []api.Bits{greatest, minus(greatest), api.One} {
		failsAt(t, "w", gglm.Task{A: of(1, 0), B: of(1, 1, least), D: of(1, 1, side)}, false)
		failsAt(t, "w", gglm.Task{A: of(1, 0), B: of(1, 3, api.Zero, minus(least), api.Zero), D: of(1, 1, side)}, false)
		failsAt(t, "w", gglm.Task{A: wholes(2, 1, 1, 0), B: of(2, 2, api.One, three, least, api.Zero), D: of(2, 1, api.One, side)}, false)
		failsAt(t, "w", gglm.Task{A: of(2, 1, least, api.Zero), B: of(2, 1, greatest, least), D: of(2, 1, greatest, side)}, false)
	}
	failsAt(t, "w", gglm.Task{A: of(2, 0), B: of(2, 2, api.One, api.Zero, greatest, api.One), D: of(2, 1, two, api.One)}, false) // one of the products is too great
}

// TestP21_2NoY: w is finite, and o's first rows turned, times w, is not, in one row of y or in the other.
func TestP21_2NoY(t *testing.T) {
	big := says(0.7 * float(greatest)) // by the root of a half it is still not too great
	for _, one := range noughts() {
		for _, other := range noughts() {
			b := of(2, 2, half, half, half, minus(half))
			failsAt(t, "y", gglm.Task{A: of(2, 0), B: b, D: of(2, 1, big^one, big^other)}, true)
			failsAt(t, "y", gglm.Task{A: wholes(3, 1, 1, 0, 0), B: of(3, 2, append(wholes(1, 2, 0, 0).Data, b.Data...)...), D: of(3, 1, api.One, big^one, big^other)}, true) // of e1, which is of noughts, f would be no number
			if seen := wantsGos(t, gglm.Task{A: of(2, 0), B: b, D: of(2, 1, power(1022)^one, power(1022)^other)}); seen != "" {
				t.Errorf("%q failed", seen)
			}
		}
	}
}

// TestP21_2NoF: c1 less e1 times y is too great, the product is, or it is no number.
func TestP21_2NoF(t *testing.T) {
	for _, sign := range noughts() {
		big := greatest ^ sign
		a := wholes(2, 1, 1, 0)
		failsAt(t, "f", gglm.Task{A: a, B: of(2, 1, big, api.One), D: of(2, 1, big, minus(api.One))}, true)
		failsAt(t, "f", gglm.Task{A: a, B: of(2, 1, big, api.One), D: of(2, 1, api.One, two)}, true)
		failsAt(t, "f", gglm.Task{A: wholes(3, 1, 1, 0, 0), B: of(3, 2, big, big, api.One, api.Zero, api.Zero, api.One), D: of(3, 1, api.One, two, minus(two))}, true)
		failsAt(t, "f", gglm.Task{A: wholes(3, 2, 1, 0, 0, 1, 0, 0), B: of(3, 1, api.One, big, api.One), D: of(3, 1, api.One, api.One, two)}, true) // in the last of f's rows alone
	}
	greats := gglm.Task{A: wholes(2, 1, 1, 0), B: of(2, 1, greatest, api.One), D: of(2, 1, greatest, api.One)}
	wants(t, greats, of(1, 1, api.Zero), of(1, 1, api.One)) // their difference is none
}

// TestP21_2NoX: the upper triangle's answer is too great.
func TestP21_2NoX(t *testing.T) {
	for _, sign := range noughts() {
		for _, side := range []api.Bits{greatest ^ sign, api.One} {
			failsAt(t, "x", gglm.Task{A: of(1, 1, least), B: of(1, 0), D: of(1, 1, side)}, false)
			failsAt(t, "x", gglm.Task{A: of(1, 1, minus(least)), B: wholes(1, 2, 3, 4), D: of(1, 1, side)}, false)
		}
		big := greatest ^ sign
		failsAt(t, "x", gglm.Task{A: of(1, 1, half), B: of(1, 0), D: of(1, 1, big)}, true)
		failsAt(t, "x", gglm.Task{A: of(2, 1, half, api.Zero), B: wholes(2, 1, 0, 1), D: of(2, 1, big, api.One)}, true)
		failsAt(t, "x", gglm.Task{A: of(2, 2, api.One, greatest, api.Zero, api.One), B: wholes(2, 1, 1, 1), D: of(2, 1, api.One, two)}, true) // one of the products is too great
	}
}

// TestP21_2GreatestFits: the greatest numbers and the least ones, where nothing on the way is greater.
func TestP21_2GreatestFits(t *testing.T) {
	for n := 1; n <= api.MaxDim; n++ {
		for m := range n + 1 {
			for _, b := range []api.Bits{greatest, minus(greatest), least, minus(least)} {
				for _, one := range []api.Bits{b, api.One} {
					a, through := filled(n, m, api.Zero), filled(n, n-m, api.Zero)
					for i := range m {
						*at(a, i, i) = one
					}
					for i := range n - m {
						*at(through, m+i, i) = one
					}
					number := api.One // b by b, or b by One
					if one == api.One {
						number = b
					}
					wants(t, gglm.Task{A: a, B: through, D: filled(n, 1, b)}, filled(m, 1, number), filled(n-m, 1, number))
				}
			}
		}
	}
}

// TestP21_2AsLayersSay: where the way ends at a call of the layers below, its error is told.
func TestP21_2AsLayersSay(t *testing.T) {
	d := dice(2120)
	sorts := d.sorts()
	some := func() func() api.Bits { return sorts[d.below(len(sorts))] }
	count := map[api.Errno]int{}
	for _, s := range shapes() {
		for range 20 {
			task := s.task(some(), some(), some())
			_, _, e := gglm.Solve(task)
			_, r, f := qr.Factor(task.A)
			if f != api.OK {
				if e != f {
					t.Errorf("Solve of\n%s%v; Factor says %v", showTask(task), e, f)
				}
				continue
			}
			flat, _ := solve.Flat(r)
			if flat != (e == api.ErrRank && gosSolve(task).failed == "flat") {
				t.Errorf("Solve of\n%s%v; its triangle is flat: %v", showTask(task), e, flat)
			}
			if s.m == 0 {
				if _, _, g := rq.Lq(task.B); g != api.OK && e != g {
					t.Errorf("Solve of\n%s%v; Lq says %v", showTask(task), e, g)
				}
			}
			count[e]++
		}
	}
	if count[api.OK] < 500 || count[api.ErrRank] < 300 || count[api.ErrRange] < 300 {
		t.Errorf("which errors: %v", count)
	}
}
