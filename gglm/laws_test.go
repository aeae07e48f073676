package gglm_test

import (
	"math/big"
	"testing"

	"dioptra/api"
	"dioptra/certify"
	"dioptra/dyadic"
	"dioptra/gglm"
	"dioptra/matrix"
)

// step: numbers stand in steps of 2^-step, products of two of them, and squares, in steps of 2^(-2 step).
const step = 1074

// grid is a matrix of exact numbers, row by row.
type grid [][]*big.Int

// gridOf is m's numbers, each in steps of 2^-1074.
func gridOf(m api.Matrix) grid {
	g := make(grid, m.Rows)
	for i := range g {
		for k := range m.Cols {
			g[i] = append(g[i], units(*at(m, i, k)))
		}
	}
	return g
}

// square is the sum of squares.
func (g grid) square() *big.Int {
	total := new(big.Int)
	for _, row := range g {
		for _, n := range row {
			total.Add(total, new(big.Int).Mul(n, n))
		}
	}
	return total
}

// add adds m times x, which is of one column, to g, which is in steps of 2^-2148.
func (g grid) add(m, x api.Matrix) {
	column := gridOf(x)
	for i, row := range gridOf(m) {
		for k, number := range row {
			g[i][0].Add(g[i][0], number.Mul(number, column[k][0]))
		}
	}
}

// lack is a x, and b y, less d, in steps of 2^-2148.
func lack(t gglm.Task, x, y api.Matrix) grid {
	g := gridOf(t.D)
	for _, row := range g {
		row[0].Neg(row[0].Lsh(row[0], step))
	}
	g.add(t.A, x)
	g.add(t.B, y)
	return g
}

// scope is a's square times x's, b's times y's, and d's, in steps of 2^-4296.
func scope(t gglm.Task, x, y api.Matrix) *big.Int {
	all := gridOf(t.D).square()
	all.Lsh(all, 2*step)
	all.Add(all, new(big.Int).Mul(gridOf(t.A).square(), gridOf(x).square()))
	return all.Add(all, new(big.Int).Mul(gridOf(t.B).square(), gridOf(y).square()))
}

// isExplained tells whether a x, and b y, less d, have a square of at most a part in 2^64 of a's square times x's, b's times y's, and d's.
func isExplained(t gglm.Task, x, y api.Matrix) bool {
	off := lack(t, x, y).square()
	return off.Lsh(off, 64).Cmp(scope(t, x, y)) <= 0
}

// standsUpright tells whether y has nothing of the direction w but for a part in 2^(k/2).
func standsUpright(y, w api.Matrix, k uint) bool {
	tilt := grid{{new(big.Int)}}
	tilt.add(turned(y), w)
	off := tilt.square()
	return off.Lsh(off, k).Cmp(new(big.Int).Mul(gridOf(y).square(), gridOf(w).square())) <= 0
}

// TestExactIsRight guards the tests of what follows: one bit too many is seen, and one too few is let be.
func TestExactIsRight(t *testing.T) {
	bit := func(n int) api.Matrix { return of(1, 1, api.One+1<<n) }
	one, none := of(1, 1, api.One), of(0, 1)
	big := of(1, 1, power(10))
	for _, c := range []struct {
		task gglm.Task
		x, y api.Matrix
		want bool
	}{
		{gglm.Task{A: wholes(2, 1, 1, 1), B: wholes(2, 2, 1, 0, 0, 1), D: wholes(2, 1, 0, 2)}, wholes(1, 1, 1), wholes(2, 1, -1, 1), true},
		{gglm.Task{A: wholes(2, 1, 1, 1), B: wholes(2, 2, 1, 0, 0, 1), D: wholes(2, 1, 0, 2)}, wholes(1, 1, 0), wholes(2, 1, 0, 2), true}, // not the least errors, but they explain all
		{gglm.Task{A: wholes(2, 1, 1, 1), B: wholes(2, 2, 1, 0, 0, 1), D: wholes(2, 1, 0, 2)}, wholes(1, 1, 1), wholes(2, 1, 1, -1), false},
		{gglm.Task{A: one, B: of(1, 0), D: one}, bit(19), none, true}, // 2^-33 is off by less than the part
		{gglm.Task{A: one, B: of(1, 0), D: one}, bit(20), none, true}, // since both squares count
		{gglm.Task{A: one, B: of(1, 0), D: one}, bit(21), none, false},
		{gglm.Task{A: of(1, 0), B: one, D: one}, none, bit(20), true},
		{gglm.Task{A: of(1, 0), B: one, D: one}, none, bit(21), false},
		{gglm.Task{A: big, B: big, D: big}, bit(20), of(1, 1, minus(bit(19).Data[0]-1<<52)), false},
		{gglm.Task{A: big, B: of(1, 0), D: big}, bit(20), none, true},
		{gglm.Task{A: big, B: of(1, 0), D: big}, bit(21), none, false},
		{gglm.Task{A: one, B: of(1, 0), D: of(1, 1, api.Zero)}, of(1, 1, power(-40)), none, false}, // of nothing no part is small
		{gglm.Task{A: one, B: of(1, 0), D: of(1, 1, least)}, of(1, 1, api.Zero), none, false},
		{gglm.Task{A: one, B: one, D: of(1, 1, api.Zero)}, one, of(1, 1, minus(bit(20).Data[0])), true}, // a's square and b's count
		{gglm.Task{A: one, B: one, D: of(1, 1, api.Zero)}, one, of(1, 1, minus(bit(21).Data[0])), false},
		{gglm.Task{A: of(0, 0), B: of(0, 2), D: none}, none, wholes(2, 1, 3, 4), true},
	} {
		if got := isExplained(c.task, c.x, c.y); got != c.want {
			t.Errorf("%sx %s\ny %s\n%v", showTask(c.task), show(c.x), show(c.y), got)
		}
	}
	y := wholes(2, 1, 3, 4)
	if !standsUpright(y, wholes(2, 1, 4, -3), 200) || standsUpright(y, wholes(2, 1, 4, -2), 6) || !standsUpright(wholes(2, 1, 0, 0), y, 200) {
		t.Error("what stands upright")
	}
}

// middles are tasks whose numbers are neither very great nor very small: of several sorts, with parts of unlike sorts, with a part of noughts, with rows and columns that hang on one another, nearly or wholly.
func middles(d *dice) []gglm.Task {
	var list []gglm.Task
	sorts := d.middle()
	some := func() func() api.Bits { return sorts[d.below(len(sorts))] }
	nought := d.out(noughts())
	plain, wide := d.near(-3, 6), d.near(-30, 60)
	for _, s := range shapes() {
		for _, pick := range sorts {
			list = append(list, s.one(pick), s.task(pick, plain, plain), s.task(plain, pick, some()), s.task(wide, pick, wide), s.task(some(), wide, some()))
		}
		list = append(list, s.task(plain, plain, nought), s.task(plain, nought, plain), s.task(nought, plain, plain), s.task(d.near(-30, 3), d.near(27, 3), plain), s.task(d.near(27, 3), d.near(-30, 3), wide))
		list = append(list, gglm.Task{A: d.mixed(s.n, s.m), B: d.mixed(s.n, s.p), D: picked(s.n, 1, some())})
		for e := 0; e < 30; e += 3 {
			task := s.one(plain)
			if s.m > 1 {
				list = append(list, with(task, 0, turned(d.leaning(turned(task.A), e))))
			}
			if s.n > 1 {
				list = append(list, with(task, 1, d.leaning(task.B, e)))
			}
		}
		task := s.one(d.small(5))
		if s.m > 0 {
			list = append(list, with(task, 0, turned(d.hanging(turned(task.A)))))
		}
		if s.n > 0 {
			list = append(list, with(task, 1, d.hanging(task.B)))
		}
		if s.n > 0 && s.m > 0 && s.p > 0 { // a number of y does what one of x does
			task.B = clone(task.B)
			for i := range s.n {
				*at(task.B, i, 0) = *at(task.A, i, s.m-1)
			}
			list = append(list, task)
		}
	}
	return list
}

// TestMiddlesAreRight guards the tests of what follows.
func TestMiddlesAreRight(t *testing.T) {
	d := dice(2130)
	for _, task := range middles(&d) {
		if !ofMiddle(task) || gglm.Check(task) != api.OK {
			t.Fatalf("\n%sa number is very great or very small", showTask(task))
		}
	}
}

// TestP21_3Explained: where there is an answer of numbers of the middle, a x, and b y, are d; where there is none, r or s is flat.
func TestP21_3Explained(t *testing.T) {
	d := dice(2131)
	count := map[api.Errno]int{}
	for _, task := range middles(&d) {
		x, y, e := gglm.Solve(task)
		count[e]++
		if e == api.OK && !isExplained(task, x, y) {
			t.Errorf("Solve of\n%sx %s\ny %s: they do not explain all", showTask(task), show(x), show(y))
		}
		if c := gosSolve(task); e != c.err || e != api.OK && e != api.ErrRank {
			t.Errorf("Solve of\n%sx %s\ny %s\n%v; wanted %v: %s", showTask(task), show(x), show(y), e, c.err, c.failed)
		}
	}
	if count[api.OK] < 5000 || count[api.ErrRank] < 1000 {
		t.Errorf("which errors: %v", count)
	}
}

// TestP21_3RankMissing: an a of whole numbers whose exact rank is too small has no answer.
func TestP21_3RankMissing(t *testing.T) {
	d := dice(2132)
	for _, s := range shapes() {
		for range 20 {
			task := s.one(d.small(3))
			if s.m > 0 && d.below(2) == 0 {
				task.A = turned(d.hanging(turned(task.A)))
			}
			rank, _ := certify.Rank(task.A)
			if _, _, e := gglm.Solve(task); rank < s.m && e != api.ErrRank {
				t.Errorf("Solve of\n%s%v, but a's rank is %d", showTask(task), e, rank)
			}
		}
	}
}

// sumOf is m times x of whole numbers, exactly.
func sumOf(m, x api.Matrix) []float64 {
	list := make([]float64, m.Rows)
	for i := range list {
		for k := range m.Cols {
			list[i] += float(*at(m, i, k)) * float(x.Data[k])
		}
	}
	return list
}

// direction is the task, of whole numbers, with its last column of b so that a v, and b w, are 0, exactly, with some v, and w, which are of whole numbers as well.
func (d *dice) direction(task gglm.Task) (gglm.Task, api.Matrix) {
	b := clone(task.B)
	last := b.Cols - 1
	v, w := picked(task.A.Cols, 1, d.small(3)), picked(b.Cols, 1, d.small(3))
	w.Data[last] = api.Zero
	byA, byB := sumOf(task.A, v), sumOf(b, w)
	w.Data[last] = api.One
	for i := range b.Rows {
		*at(b, i, last) = says(-byA[i] - byB[i])
	}
	return with(task, 1, b), w
}

// TestP5LeastErrors: y has nothing in a direction whose errors x could take over, but for a small part: it is the least one.
func TestP5LeastErrors(t *testing.T) {
	d := dice(2133)
	told := 0
	for _, s := range shapes() {
		if s.p == s.n-s.m { // then there is but one y
			continue
		}
		for range 40 {
			task, w := d.direction(s.task(d.small(9), d.small(3), d.small(9)))
			_, y, e := gglm.Solve(task)
			if e != api.OK {
				continue
			}
			told++
			if !standsUpright(y, w, 60) {
				t.Errorf("Solve of\n%sy %s: not upright on %s", showTask(task), show(y), show(w))
			}
		}
	}
	if told < 2000 {
		t.Errorf("%d answers", told)
	}
}

// reachesAll tells whether a's columns and b's, of small whole numbers, reach every d: a times a turned, and b times b turned added to it, are of the rank of both beside one another.
func reachesAll(task gglm.Task) bool {
	n := task.A.Rows
	all := filled(n, n, api.Zero)
	for _, m := range []api.Matrix{task.A, task.B} {
		for i := range n {
			for k, by := range sumOf(m, of(m.Cols, 1, m.Data[i*m.Cols:(i+1)*m.Cols]...)) {
				*at(all, i, k) = says(float(*at(all, i, k)) + by)
			}
		}
	}
	rank, e := certify.Rank(all)
	return rank == n && e == api.OK
}

// TestP5KnownAnswers: y is b turned, times a z that stands upright on a's columns, so that it is the least one, x is any; d is what both explain, exactly.
func TestP5KnownAnswers(t *testing.T) {
	d := dice(2134)
	near := func(want, got api.Matrix) bool {
		off, e := certify.Residual(want, eye(want.Rows), got)
		size, _ := certify.Square(want)
		one, _ := certify.Square(eye(1))
		size, _ = dyadic.Add(size, one) // of noughts no part is small
		is, _ := certify.Within(off, size, 25)
		return is && e == api.OK
	}
	told := 0
	for _, s := range shapes() {
		for range 40 {
			task := s.one(d.small(4))
			x, y := picked(s.m, 1, d.small(9)), filled(s.p, 1, api.Zero)
			if s.n > 0 {
				z := picked(s.n, 1, d.small(3))
				z.Data[s.n-1] = api.Zero
				for k, by := range sumOf(turned(task.A), z) {
					*at(task.A, s.n-1, k) = says(-by)
				}
				z.Data[s.n-1] = api.One
				for k, by := range sumOf(turned(task.B), z) {
					y.Data[k] = says(by)
				}
			}
			byA, byB := sumOf(task.A, x), sumOf(task.B, y)
			for i := range task.D.Data {
				task.D.Data[i] = says(byA[i] + byB[i])
			}
			gotX, gotY, e := gglm.Solve(task)
			if e == api.ErrRank || !reachesAll(task) { // where it is but for roundings that something is left, nothing is said of y
				continue
			}
			told++
			if !near(x, gotX) || !near(y, gotY) || e != api.OK {
				t.Errorf("Solve of\n%sx %s\ny %s\n%v; wanted\nx %s\ny %s", showTask(task), show(gotX), show(gotY), e, show(x), show(y))
			}
		}
	}
	if told < 2000 {
		t.Errorf("%d answers", told)
	}
}

// TestP21_4AllExplained: with as many rows as columns in a y is noughts, whatever b is; and x is the same, as long as nothing of b is too great.
func TestP21_4AllExplained(t *testing.T) {
	d := dice(2135)
	told := 0
	sorts := d.sorts()
	for n := range api.MaxDim + 1 {
		for i, pick := range sorts {
			a, side := picked(n, n, pick), picked(n, 1, pick)
			want, none, e := gglm.Solve(gglm.Task{A: a, B: of(n, 0), D: side})
			for p := range api.MaxDim + 1 {
				for range 3 {
					some := d.below(len(sorts))
					task := gglm.Task{A: a, B: picked(n, p, sorts[some]), D: side}
					x, y, f := gglm.Solve(task)
					if f == api.OK && !alike(y, filled(p, 1, api.Zero)) {
						t.Errorf("Solve of\n%sy %s", showTask(task), show(y))
					}
					if some >= len(d.middle()) { // e may be too great
						continue
					}
					if e != f || !same(x, want) {
						t.Errorf("Solve of\n%sx %s, %v; without b %s, %v", showTask(task), show(x), f, show(want), e)
					}
					if f == api.OK && i < len(d.middle()) {
						told++
					}
				}
			}
			if len(none.Data) > 0 {
				t.Errorf("without b: y %s", show(none))
			}
		}
	}
	if told < 500 {
		t.Errorf("%d answers", told)
	}
}

// TestP21_5Eye: with no columns in a, and Eye for b, y is d, but for signs of noughts, of numbers of any size.
func TestP21_5Eye(t *testing.T) {
	d := dice(2136)
	for n := range api.MaxDim + 1 {
		for _, pick := range append(d.sorts(), d.out(noughts())) {
			for range 5 {
				task := gglm.Task{A: of(n, 0), B: eye(n), D: picked(n, 1, pick)}
				if x, y, e := gglm.Solve(task); !same(x, of(0, 1)) || !alike(y, task.D) || e != api.OK {
					t.Errorf("Solve of\n%sx %s\ny %s\n%v", showTask(task), show(x), show(y), e)
				}
			}
		}
	}
}

// certified tells what the certifying layer says of what isExplained reckons here; a and b have no more than MaxDim columns together.
func certified(t *testing.T, task gglm.Task, x, y api.Matrix) bool {
	t.Helper()
	fine := func(e api.Errno) {
		if e != api.OK {
			t.Errorf("%sx %s\ny %s\n%v", showTask(task), show(x), show(y), e)
		}
	}
	wide, e := matrix.Beside(task.A, task.B)
	fine(e)
	tall, e := matrix.Stack(x, y)
	fine(e)
	off, e := certify.Residual(task.D, wide, tall)
	fine(e)
	bound, e := certify.Square(task.D)
	fine(e)
	for _, pair := range [][2]api.Matrix{{task.A, x}, {task.B, y}} {
		left, e := certify.Square(pair[0])
		fine(e)
		right, e := certify.Square(pair[1])
		fine(e)
		product, e := dyadic.Mul(left, right)
		fine(e)
		bound, e = dyadic.Add(bound, product)
		fine(e)
	}
	near, e := certify.Within(off, bound, 32)
	fine(e)
	return near
}

// TestP6Verdicts: the certifying layer says of x and y, and of what is further off, what is reckoned here.
func TestP6Verdicts(t *testing.T) {
	d := dice(2137)
	count := map[bool]int{}
	for n, task := range middles(&d) {
		x, y, e := gglm.Solve(task)
		if n%7 != 0 || e != api.OK || task.A.Cols+task.B.Cols > api.MaxDim {
			continue
		}
		if !certified(t, task, x, y) {
			t.Errorf("Solve of\n%sx %s\ny %s: not certified", showTask(task), show(x), show(y))
		}
		for _, by := range []api.Bits{1 << 10, 1 << 21, 1 << 30} {
			more := func(b api.Bits) api.Bits { return b + by }
			offX, offY := each(x, more), each(y, more)
			want := isExplained(task, offX, offY)
			count[want]++
			if got := certified(t, task, offX, offY); got != want {
				t.Errorf("%sx %s\ny %s: %v; wanted %v", showTask(task), show(offX), show(offY), got, want)
			}
		}
	}
	if count[true] < 300 || count[false] < 300 {
		t.Errorf("which are explained: %v", count)
	}
}
