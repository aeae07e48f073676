package lse_test

import (
	"math/big"
	"testing"

	"dioptra/api"
	"dioptra/certify"
	"dioptra/dyadic"
	"dioptra/lse"
	"dioptra/solve"
)

// step: numbers stand in steps of 2^-step, products of two of them, and squares, in steps of 2^(-2 step).
const step = 1074

// grid is a matrix of exact numbers, row by row.
type grid [][]*big.Int

// gridOf is m's numbers, each in steps of 2^-1074.
func gridOf(m api.Matrix) grid {
	g := make(grid, m.Rows)
	for i := range g {
		for k := range m.Cols {
			g[i] = append(g[i], units(*at(m, i, k)))
		}
	}
	return g
}

// times is g times h, without any rounding.
func (g grid) times(h grid) grid {
	product := make(grid, len(g))
	for i, row := range g {
		for c := range h[0] {
			n := new(big.Int)
			for k, number := range row {
				n.Add(n, new(big.Int).Mul(number, h[k][c]))
			}
			product[i] = append(product[i], n)
		}
	}
	return product
}

// turned has g's rows as columns, so many of each.
func (g grid) turned(cols int) grid {
	t := make(grid, cols)
	for k := range t {
		for _, row := range g {
			t[k] = append(t[k], row[k])
		}
	}
	return t
}

// lack is a x, less b, in steps of 2^-2148.
func lack(a, x, b api.Matrix) grid {
	g := make(grid, b.Rows)
	if a.Cols == 0 {
		for i := range g {
			g[i] = []*big.Int{new(big.Int)}
		}
	} else {
		g = gridOf(a).times(gridOf(x))
	}
	for i, row := range gridOf(b) {
		g[i][0].Sub(g[i][0], row[0].Lsh(row[0], step))
	}
	return g
}

// square is the sum of squares.
func (g grid) square() *big.Int {
	total := new(big.Int)
	for _, row := range g {
		for _, n := range row {
			total.Add(total, new(big.Int).Mul(n, n))
		}
	}
	return total
}

// both is a's square times x's, and b's, in steps of 2^-4296.
func both(a, x, b api.Matrix) *big.Int {
	all := new(big.Int).Mul(gridOf(a).square(), gridOf(x).square())
	side := gridOf(b).square()
	return all.Add(all, side.Lsh(side, 2*step))
}

// isFulfilled tells whether b x, less d, has a square of at most a part in 2^70 of b's square times x's, and d's.
func isFulfilled(b, x, d api.Matrix) bool {
	off := lack(b, x, d).square()
	return off.Lsh(off, 70).Cmp(both(b, x, d)) <= 0
}

// isNearest tells whether a turned, times (a x less c), has a square of at most a part in 2^70 of a's square times (a's times x's, and c's).
func isNearest(a, x, c api.Matrix) bool {
	if len(a.Data) == 0 { // then there is nothing that could be off
		return true
	}
	tilt := gridOf(a).turned(a.Cols).times(lack(a, x, c)).square()
	whole := gridOf(a).square()
	return tilt.Lsh(tilt, 70).Cmp(whole.Mul(whole, both(a, x, c))) <= 0
}

// standsUpright tells whether a x less c, gone over by a turned, has nothing in the direction w but for a part in 2^(k/2) of what it could have at most.
func standsUpright(a, x, c, w api.Matrix, k uint) bool {
	tilt := gridOf(w).turned(1).times(gridOf(a).turned(a.Cols).times(lack(a, x, c))).square()
	whole := new(big.Int).Mul(gridOf(a).square(), gridOf(w).square())
	return tilt.Lsh(tilt, k).Cmp(whole.Mul(whole, both(a, x, c))) <= 0
}

// TestExactIsRight guards the tests of what follows: one bit too many is seen, and one too few is let be.
func TestExactIsRight(t *testing.T) {
	bit := func(n int) api.Bits { return api.One + 1<<n }
	for _, c := range []struct {
		a, x, b            api.Matrix
		fulfilled, nearest bool
	}{
		{wholes(2, 1, 1, 1), wholes(1, 1, 2), wholes(2, 1, 1, 3), false, true},
		{wholes(2, 1, 1, 1), of(1, 1, two+1<<19), wholes(2, 1, 1, 3), false, false},
		{wholes(2, 1, 3, 4), wholes(1, 1, 0), wholes(2, 1, 4, -3), false, true}, // what stands upright on a has nothing of it
		{wholes(2, 1, 3, 4), wholes(1, 1, 0), wholes(2, 1, 4, -4), false, false},
		{wholes(1, 2, 1, 1), wholes(2, 1, 5, -2), wholes(1, 1, 3), true, true},
		{wholes(1, 1, 1), of(1, 1, power(-34)), wholes(1, 1, 0), false, false},
		{wholes(1, 1, 1), of(1, 1, api.Zero), of(1, 1, least), false, false}, // of nothing no part is small
		{wholes(1, 1, 1), of(1, 1, bit(17)+1<<13), wholes(1, 1, 1), true, true},
		{wholes(1, 1, 1), of(1, 1, bit(17)+1<<16), wholes(1, 1, 1), false, false}, // d's square counts as well: 2^-35 times somewhat above sqrt 2
		{wholes(1, 1, 1024), of(1, 1, bit(17)+1<<13), wholes(1, 1, 1024), true, true},
		{wholes(1, 1, 1024), of(1, 1, bit(17)+1<<16), wholes(1, 1, 1024), false, false},
		{of(3, 0), of(0, 1), of(3, 1, api.One, api.One, api.One), false, true},
		{of(3, 0), of(0, 1), filled(3, 1, api.NegZero), true, true},
		{of(0, 3), filled(3, 1, api.One), of(0, 1), true, true},
		{of(0, 0), of(0, 1), of(0, 1), true, true},
	} {
		if f, n := isFulfilled(c.a, c.x, c.b), isNearest(c.a, c.x, c.b); f != c.fulfilled || n != c.nearest {
			t.Errorf("%s, x %s, side %s: %v, %v", show(c.a), show(c.x), show(c.b), f, n)
		}
	}
	a, c := wholes(2, 2, 1, 0, 0, 1), wholes(2, 1, 1, 2)
	if w := wholes(2, 1, 1, -1); !standsUpright(a, wholes(2, 1, 0, 1), c, w, 200) || standsUpright(a, wholes(2, 1, 1, 1), c, w, 6) || standsUpright(a, wholes(2, 1, 0, 1), c, wholes(2, 1, 1, 1), 3) {
		t.Error("what stands upright")
	}
}

// middles are tasks whose numbers are neither very great nor very small: of several sorts, with parts of unlike sorts, with a part of noughts, with rows and columns that hang on one another, nearly or wholly.
func middles(d *dice) []lse.Task {
	var list []lse.Task
	sorts := d.middle()
	some := func() func() api.Bits { return sorts[d.below(len(sorts))] }
	nought := d.out(noughts())
	for _, s := range shapes() {
		for _, pick := range sorts {
			list = append(list, s.one(pick), s.task(pick, d.near(-3, 6), pick, d.near(-3, 6)), s.task(d.near(-30, 60), pick, some(), d.near(-30, 60)), s.task(some(), d.near(-30, 60), some(), some()))
		}
		plain := d.near(-3, 6)
		list = append(list, s.task(plain, plain, nought, nought), s.task(plain, plain, plain, nought), s.task(plain, plain, nought, plain), s.task(nought, plain, plain, plain))
		list = append(list, lse.Task{A: d.mixed(s.m, s.n), B: d.mixed(s.p, s.n), C: picked(s.m, 1, some()), D: picked(s.p, 1, some())})
		for e := 0; e < 30; e += 3 {
			task := s.one(plain)
			if s.p > 1 {
				list = append(list, with(task, 1, d.leaning(task.B, e)))
			}
			if s.n > 1 {
				list = append(list, with(task, 0, turned(d.leaning(turned(task.A), e))))
			}
		}
		task := s.one(d.small(5))
		if s.p > 0 {
			list = append(list, with(task, 1, d.hanging(task.B)))
		}
		if s.n > 0 {
			list = append(list, with(task, 0, turned(d.hanging(turned(task.A)))))
		}
		if s.m > 0 && s.p > 0 { // a row of a is one of b's
			copy(task.A.Data, task.B.Data[:s.n])
			list = append(list, task)
		}
	}
	return list
}

// TestMiddlesAreRight guards the tests of what follows.
func TestMiddlesAreRight(t *testing.T) {
	d := dice(2030)
	for _, task := range middles(&d) {
		if !ofMiddle(task) || lse.Check(task) != api.OK {
			t.Fatalf("\n%sa number is very great or very small", showTask(task))
		}
	}
}

// TestP20_3Fulfilled: where there is an answer of numbers of the middle, b x is d; where there is none, s or e2 is flat.
func TestP20_3Fulfilled(t *testing.T) {
	d := dice(2031)
	count := map[api.Errno]int{}
	for _, task := range middles(&d) {
		x, e := lse.Solve(task)
		count[e]++
		if e == api.OK && !isFulfilled(task.B, x, task.D) {
			t.Errorf("Solve of\n%s%s: the equations do not hold", showTask(task), show(x))
		}
		if c := gosSolve(task); e != c.err || e != api.OK && e != api.ErrRank {
			t.Errorf("Solve of\n%s%s, %v; wanted %v: %s", showTask(task), show(x), e, c.err, c.failed)
		}
	}
	if count[api.OK] < 5000 || count[api.ErrRank] < 1000 {
		t.Errorf("which errors: %v", count)
	}
}

// TestP20_3RankMissing: equations of whole numbers whose exact rank is too small have no answer.
func TestP20_3RankMissing(t *testing.T) {
	d := dice(2032)
	for _, s := range shapes() {
		for range 20 {
			task := s.one(d.small(3))
			if s.p > 0 && d.below(2) == 0 {
				task.B = d.hanging(task.B)
			}
			rank, _ := certify.Rank(task.B)
			if _, e := lse.Solve(task); rank < s.p && e != api.ErrRank {
				t.Errorf("Solve of\n%s%v, but b's rank is %d", showTask(task), e, rank)
			}
		}
	}
}

// direction is b, of whole numbers, with its last column so that b w is 0, exactly, and w, which is of whole numbers as well.
func (d *dice) direction(b api.Matrix) (api.Matrix, api.Matrix) {
	b = clone(b)
	w := picked(b.Cols, 1, d.small(3))
	w.Data[b.Cols-1] = api.One
	for i := range b.Rows {
		s := 0.0
		for k := range b.Cols - 1 {
			s -= float(*at(b, i, k)) * float(w.Data[k])
		}
		*at(b, i, b.Cols-1) = says(s)
	}
	return b, w
}

// TestP5NearestUnderEquations: a x less c, gone over by a turned, has nothing in a direction that the equations leave open, but for a small part.
func TestP5NearestUnderEquations(t *testing.T) {
	d := dice(2033)
	told := 0
	for _, s := range shapes() {
		if s.p == s.n { // they leave none open
			continue
		}
		for range 40 {
			task := s.task(d.small(9), d.small(3), d.small(9), d.small(9))
			b, w := d.direction(task.B)
			task.B = b
			x, e := lse.Solve(task)
			if e != api.OK {
				continue
			}
			told++
			if !standsUpright(task.A, x, task.C, w, 60) {
				t.Errorf("Solve of\n%s%s: not upright on %s", showTask(task), show(x), show(w))
			}
		}
	}
	if told < 2000 {
		t.Errorf("%d answers", told)
	}
}

// TestP20_4NoEquations: with no rows in b there is an answer just if layer 17 has one, it is the same one but for signs of noughts, and of numbers of the middle it nearly stands upright.
func TestP20_4NoEquations(t *testing.T) {
	d := dice(2034)
	count := map[api.Errno]int{}
	look := func(task lse.Task) {
		x, e := lse.Solve(task)
		want, f := solve.Least(task.A, task.C)
		count[e]++
		if e != f || !alike(x, want) {
			t.Errorf("Solve of\n%s%s, %v; Least says %s, %v", showTask(task), show(x), e, show(want), f)
		}
		if e == api.OK && ofMiddle(task) && !isNearest(task.A, x, task.C) {
			t.Errorf("Solve of\n%s%s does not stand upright", showTask(task), show(x))
		}
	}
	for _, task := range middles(&d) {
		if task.B.Rows == 0 {
			look(task)
		}
	}
	for _, s := range shapes() {
		for range 8 {
			if s.p == 0 {
				for _, pick := range d.sorts() {
					look(s.task(pick, nil, pick, nil))
				}
			}
		}
	}
	look(lse.Task{A: wholes(2, 1, 1, 1), B: of(0, 1), C: of(2, 1, greatest, greatest), D: of(0, 1)}) // layer 17 says ErrFinite of what it finds on its way
	if count[api.OK] < 3000 || count[api.ErrRank] < 500 || count[api.ErrRange] < 300 || count[api.ErrFinite] < 1 {
		t.Errorf("which errors: %v", count)
	}
}

// TestP20_5Fixed: with as many rows as columns in b what is told is the same, whatever numbers a and c have, and however many rows.
func TestP20_5Fixed(t *testing.T) {
	d := dice(2035)
	told := 0
	sorts := d.middle()
	for n := range api.MaxDim + 1 {
		for _, pick := range sorts {
			b, side := picked(n, n, pick), picked(n, 1, pick)
			want, e := lse.Solve(lse.Task{A: of(0, n), B: b, C: of(0, 1), D: side})
			for m := range api.MaxDim + 1 {
				for range 4 {
					some := sorts[d.below(len(sorts))]
					task := lse.Task{A: picked(m, n, some), B: b, C: picked(m, 1, some), D: side}
					if e != api.OK {
						fails(t, task, e)
						continue
					}
					wants(t, task, want)
					told++
				}
			}
		}
	}
	if told < 1000 {
		t.Errorf("%d answers", told)
	}
}

// TestP20_5Eye: with Eye for b what is told is d, but for signs of noughts, of numbers of any size, as long as a has no rows, or is small.
func TestP20_5Eye(t *testing.T) {
	d := dice(2036)
	for n := range api.MaxDim + 1 {
		for m := range api.MaxDim + 1 {
			for i, pick := range d.sorts() {
				task := lse.Task{A: of(0, n), B: eye(n), C: of(0, 1), D: picked(n, 1, pick)}
				if i < len(d.middle()) {
					task.A, task.C = picked(m, n, pick), picked(m, 1, pick)
				}
				if x, e := lse.Solve(task); !alike(x, task.D) || e != api.OK {
					t.Errorf("Solve of\n%s%s, %v", showTask(task), show(x), e)
				}
			}
		}
	}
}

// certified tells what the certifying layer says of what isFulfilled reckons here.
func certified(t *testing.T, b, x, d api.Matrix) bool {
	t.Helper()
	off, e := certify.Residual(d, b, x)
	whole, f := certify.Square(b)
	right, g := certify.Square(x)
	side, h := certify.Square(d)
	product, _ := dyadic.Mul(whole, right)
	bound, _ := dyadic.Add(product, side)
	near, i := certify.Within(off, bound, 35)
	if e != api.OK || f != api.OK || g != api.OK || h != api.OK || i != api.OK {
		t.Errorf("%s, %s, %s: %v, %v, %v, %v, %v", show(b), show(x), show(d), e, f, g, h, i)
	}
	return near
}

// TestP6Verdicts: the certifying layer says of x, and of what is further off, what is reckoned here.
func TestP6Verdicts(t *testing.T) {
	d := dice(2037)
	count := map[bool]int{}
	for n, task := range middles(&d) {
		x, e := lse.Solve(task)
		if n%5 != 0 || e != api.OK {
			continue
		}
		if !certified(t, task.B, x, task.D) {
			t.Errorf("Solve of\n%s%s is not certified", showTask(task), show(x))
		}
		for _, by := range []api.Bits{1 << 10, 1 << 18, 1 << 30} {
			off := each(x, func(b api.Bits) api.Bits { return b + by })
			want := isFulfilled(task.B, off, task.D)
			count[want]++
			if got := certified(t, task.B, off, task.D); got != want {
				t.Errorf("%s, %s, %s: %v; wanted %v", show(task.B), show(off), show(task.D), got, want)
			}
		}
	}
	if count[true] < 500 || count[false] < 500 {
		t.Errorf("which are fulfilled: %v", count)
	}
}
