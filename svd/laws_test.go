package svd_test

import (
	"math/big"
	"testing"

	"dioptra/api"
	"dioptra/certify"
	"dioptra/vector"
)

// step: numbers stand in steps of 2^-step, products of two of them in steps of 2^-step times 2^-step.
const step = 1074

// grid is a matrix of exact numbers, row by row.
type grid [][]*big.Int

// gridOf is m's numbers, each in steps of 2^-1074.
func gridOf(m api.Matrix) grid {
	g := make(grid, m.Rows)
	for i := range g {
		for k := range m.Cols {
			g[i] = append(g[i], units(*at(m, i, k)))
		}
	}
	return g
}

// dot is the exact product of columns p and q.
func (g grid) dot(p, q int) *big.Int {
	sum := new(big.Int)
	for _, row := range g {
		sum.Add(sum, new(big.Int).Mul(row[p], row[q]))
	}
	return sum
}

// square is the sum of squares.
func (g grid) square() *big.Int {
	sum := new(big.Int)
	for _, row := range g {
		for _, n := range row {
			sum.Add(sum, new(big.Int).Mul(n, n))
		}
	}
	return sum
}

// timesLess is g times o, less m, in steps of 2^-1074 twice.
func (g grid) timesLess(o, m grid) grid {
	rest := make(grid, len(m))
	for i := range m {
		for k, n := range m[i] {
			sum := new(big.Int).Neg(new(big.Int).Lsh(n, step))
			for j := range o {
				sum.Add(sum, new(big.Int).Mul(g[i][j], o[j][k]))
			}
			rest[i] = append(rest[i], sum)
		}
	}
	return rest
}

// small tells whether x is at most a part in 2^k of y.
func small(x, y *big.Int, k uint) bool {
	return new(big.Int).Lsh(x, k).Cmp(y) <= 0
}

// isTurned tells whether a times v, less w, has a square of at most a part in 2^k of a's.
func isTurned(a, v, w api.Matrix, k uint) bool {
	g := gridOf(a)
	return small(g.timesLess(gridOf(v), gridOf(w)).square(), new(big.Int).Lsh(g.square(), 2*step), k)
}

// standsUpright tells whether v's columns do, but for a square of 2^-k.
func standsUpright(v api.Matrix, k uint) bool {
	g := gridOf(v)
	rest := make(grid, v.Cols)
	for p := range rest {
		for q := range v.Cols {
			n := g.dot(p, q)
			if p == q {
				n.Sub(n, new(big.Int).Lsh(big.NewInt(1), 2*step))
			}
			rest[p] = append(rest[p], n)
		}
	}
	return small(rest.square(), new(big.Int).Lsh(big.NewInt(1), 4*step), k)
}

// areUpright tells whether of each two columns of w the product's square is at most a part in 2^76 of that of their squares, or one of their squares at most a part in 2^80 of a's.
func areUpright(w, a api.Matrix) bool {
	g, all := gridOf(w), gridOf(a).square()
	for p := range w.Cols {
		for q := range p {
			x, y, d := g.dot(p, p), g.dot(q, q), g.dot(p, q)
			if !small(d.Mul(d, d), new(big.Int).Mul(x, y), 76) && !small(x, all, 80) && !small(y, all, 80) {
				return false
			}
		}
	}
	return true
}

// areNorms tells whether sizes are the norms of w's columns, by the machine's own numbers and by layer 9, and never grow.
func areNorms(sizes []api.Bits, w api.Matrix) bool {
	for k, size := range sizes {
		n, e := vector.Norm(chosen(w, k).Data)
		if says(gosNorm(columnsOf(w)[k])) != size || n != size || e != api.OK || k > 0 && float(sizes[k-1]) < float(size) {
			return false
		}
	}
	return len(sizes) == w.Cols
}

// TestExactIsRight guards the tests of what follows: one bit too many is seen, and one too few is let be.
func TestExactIsRight(t *testing.T) {
	turn := wholes(2, 2, 0, 1, -1, 0)
	for _, c := range []struct {
		a, v, w api.Matrix
		want    bool
	}{
		{wholes(1, 2, 1, 2), turn, wholes(1, 2, -2, 1), true},
		{wholes(1, 2, 1, 2), turn, wholes(1, 2, 2, -1), false},
		{wholes(2, 2, 1, 2, 3, 4), eye(2), wholes(2, 2, 1, 2, 3, 4), true},
		{wholes(3, 2, 1, 2, 3, 4, 5, 6), turn, wholes(3, 2, -2, 1, -4, 3, -6, 5), true},
		{eye(1), eye(1), of(1, 1, api.One+1<<17), true}, // off by 2^-35
		{eye(1), eye(1), of(1, 1, api.One+1<<17+1), false},
		{of(1, 1, power(-100)), eye(1), of(1, 1, power(-100)+1<<17), true}, // sizes say nothing
		{of(1, 1, power(-100)), eye(1), of(1, 1, power(-100)+1<<17+1), false},
		{of(1, 1, api.Zero), eye(1), of(1, 1, api.NegZero), true},
		{of(1, 1, api.Zero), eye(1), of(1, 1, least), false}, // of nothing no part is small
		{of(0, 2), eye(2), of(0, 2), true},
		{of(2, 0), of(0, 0), of(2, 0), true},
	} {
		if got := isTurned(c.a, c.v, c.w, 70); got != c.want {
			t.Errorf("%s times %s is %s: %v", show(c.a), show(c.v), show(c.w), got)
		}
	}
	for _, c := range []struct {
		v    api.Matrix
		want bool
	}{
		{of(0, 0), true},
		{eye(6), true},
		{turn, true},
		{wholes(2, 2, 1, 0, 0, 0), false},
		{wholes(2, 2, 1, 1, 0, 1), false},
		{of(1, 1, api.One-1<<17), true}, // off by almost 2^-35
		{of(1, 1, api.One+1<<16), false},
		{of(2, 2, api.One, power(-36), api.Zero, api.One), true}, // twice 2^-72 is off
		{of(2, 2, api.One, power(-35), api.Zero, api.One), false},
	} {
		if got := standsUpright(c.v, 70); got != c.want {
			t.Errorf("%s stands upright: %v", show(c.v), got)
		}
	}
	for _, c := range []struct {
		w, a api.Matrix
		want bool
	}{
		{of(0, 6), of(0, 6), true},
		{eye(3), eye(3), true},
		{wholes(1, 2, 1, 1), wholes(1, 1, 1), false},
		{of(2, 2, api.One, power(-38), api.Zero, api.One), eye(2), true},
		{of(2, 2, api.One, power(-38)+1, api.Zero, api.One), eye(2), false},
		{of(2, 2, api.One, minus(power(-38)+1), api.Zero, api.One), eye(2), false},
		{of(1, 2, api.One, power(-40)), wholes(1, 1, 1), true}, // one is small
		{of(1, 2, api.One, power(-40)+1), wholes(1, 1, 1), false},
		{of(1, 2, power(-40), api.One), wholes(1, 1, 1), true},
		{of(1, 2, power(-40)+1, api.One), wholes(1, 1, 1), false},
		{of(1, 3, api.One, api.Zero, power(-39)), wholes(1, 1, 1), false},
	} {
		if got := areUpright(c.w, c.a); got != c.want {
			t.Errorf("%s beside %s: %v", show(c.w), show(c.a), got)
		}
	}
	if !areNorms([]api.Bits{four, three}, wholes(1, 2, 4, -3)) || areNorms([]api.Bits{three, four}, wholes(1, 2, 3, 4)) || areNorms([]api.Bits{four}, wholes(1, 2, 4, 3)) || areNorms([]api.Bits{four, three}, wholes(1, 2, 4, 2)) {
		t.Error("what sizes are")
	}
}

// middles are matrices of all sizes whose numbers are neither very great nor very small: of several sorts, of columns of unlike sorts, with noughts in columns, with columns that lean on one another, or are of very unlike sizes, and such as stand upright.
func middles(d *dice) []api.Matrix {
	list := []api.Matrix{slowest()}
	for _, s := range sizes() {
		for _, pick := range d.middle() {
			list = append(list, picked(s[0], s[1], pick))
		}
		for _, pick := range []func() api.Bits{d.small(9), d.near(-3, 6), d.near(-30, 60), d.near(-90, 180)} { // times the multiples' numbers they still are of the middle
			list = append(list, d.multiples(s[0], s[1], pick), d.leaning(s[0], s[1], 1+d.below(50), pick))
		}
		for _, pick := range []func() api.Bits{d.small(9), d.near(-3, 6)} {
			list = append(list, d.steep(picked(s[0], s[1], pick), 90), d.steep(d.leaning(s[0], s[1], 1+d.below(50), pick), 40))
		}
		for k := range s[1] {
			list = append(list, d.noughtColumn(d.mixed(s[0], s[1]), k))
		}
		list = append(list, d.mixed(s[0], s[1]), withDiagonal(s[0], s[1], api.NegZero, picked(min(s[0], s[1]), 1, d.near(-100, 200)).Data...))
	}
	return list
}

// TestMiddlesAreRight guards the tests of what follows.
func TestMiddlesAreRight(t *testing.T) {
	d := dice(1970)
	for _, a := range middles(&d) {
		if !ofMiddle(a) {
			t.Fatalf("%s: a number is very great or very small", show(a))
		}
	}
}

// holds looks after P19.2 to P19.5 of what is told of a.
func holds(t *testing.T, a api.Matrix) {
	t.Helper()
	got := ask(a)
	if got.err != api.OK {
		t.Errorf("Upright of %s: %v", show(a), got.err)
		return
	}
	if !isTurned(a, got.v, got.w, 70) {
		t.Errorf("Upright of %s: %sa times v is another one than w", show(a), got.show())
	}
	if !standsUpright(got.v, 70) {
		t.Errorf("Upright of %s: %sv does not stand upright", show(a), got.show())
	}
	if !areUpright(got.w, a) {
		t.Errorf("Upright of %s: %sw does not stand upright", show(a), got.show())
	}
	if !areNorms(got.sizes, got.w) {
		t.Errorf("Upright of %s: %sthe sizes are others, or grow", show(a), got.show())
	}
}

// TestP19_2to5: of numbers of the middle a times v is w (P19.2), v stands upright (P19.3), and so does w (P19.4), whose sizes are its norms and never grow (P19.5).
func TestP19_2to5(t *testing.T) {
	t.Parallel()
	d := dice(1971)
	for _, a := range middles(&d) {
		holds(t, a)
	}
}

// TestP19_2to5Edges: a pair that is just let be, or just turned, as a norm is low, or an inner product the bound.
func TestP19_2to5Edges(t *testing.T) {
	t.Parallel()
	for _, by := range []api.Bits{0, 1, 1 << 20, 1 << 51} {
		for _, first := range []api.Bits{api.One, three, two - 1, power(99), power(-40)} {
			low := says(float(first)*float(power(-44))) + by
			holds(t, of(1, 2, first, low))
			holds(t, of(1, 3, low, first, low))
			holds(t, of(2, 2, first, low, api.Zero, first))
			holds(t, of(2, 3, first, low, low, api.Zero, first, minus(first)))
			holds(t, of(3, 3, first, first, low, api.Zero, low, minus(first), first, minus(first), api.One))
		}
	}
}

// TestP19_3Rows: v has as many rows as columns, so its rows stand upright as well.
func TestP19_3Rows(t *testing.T) {
	t.Parallel()
	d := dice(1972)
	for i, a := range middles(&d) {
		if i%4 != 0 {
			continue
		}
		v := ask(a).v
		turned := of(v.Cols, v.Rows)
		for k := range v.Cols {
			turned.Data = append(turned.Data, chosen(v, k).Data...)
		}
		if !standsUpright(turned, 68) {
			t.Errorf("Upright of %s: v %s, whose rows do not stand upright", show(a), show(v))
		}
	}
}

// TestP6Verdicts: the certifying layer says of w and v what is reckoned here, and of such as are a little off.
func TestP6Verdicts(t *testing.T) {
	t.Parallel()
	d := dice(1973)
	one, _ := certify.Square(eye(1))
	count := map[bool]int{}
	for i, a := range middles(&d) {
		if i%5 != 0 {
			continue
		}
		got := ask(a)
		all, _ := certify.Square(a)
		for _, by := range []api.Bits{0, 1 << 10, 1 << 16, 1 << 30} {
			off := got.clone()
			for _, list := range off.lists() {
				for j := range list {
					if j%3 == 0 && list[j]&^api.NegZero != 0 {
						list[j] += by
					}
				}
			}
			wantV, wantW := standsUpright(off.v, 70), isTurned(a, got.v, off.w, 80)
			count[wantV]++
			count[wantW]++
			tilt, e := certify.Orthogonal(off.v)
			if is, f := certify.Within(tilt, one, 35); is != wantV || e != api.OK || f != api.OK || by == 0 && !is {
				t.Errorf("%s: %v, %v, %v; wanted %v", show(off.v), is, e, f, wantV)
			}
			rest, e := certify.Residual(off.w, a, got.v)
			if is, f := certify.Within(rest, all, 40); is != wantW || e != api.OK || f != api.OK || by == 0 && !is {
				t.Errorf("%s less %s times %s: %v, %v, %v; wanted %v", show(off.w), show(a), show(got.v), is, e, f, wantW)
			}
		}
	}
	if count[true] < 100 || count[false] < 100 {
		t.Errorf("which are so: %v", count)
	}
}
