package solve_test

import (
	"math"
	"testing"

	"dioptra/api"
	"dioptra/compare"
	"dioptra/sum"
	"dioptra/times"
)

// table is a matrix of the machine's own numbers, row by row.
type table [][]float64

func tableOf(m api.Matrix) table {
	t := make(table, m.Rows)
	for i := range t {
		for k := range m.Cols {
			t[i] = append(t[i], float(*at(m, i, k)))
		}
	}
	return t
}

// matrix is a right matrix of so many columns.
func (t table) matrix(cols int) api.Matrix {
	m := of(len(t), cols)
	for _, row := range t {
		for _, f := range row {
			m.Data = append(m.Data, says(f))
		}
	}
	return m
}

func (t table) finite() bool {
	for _, row := range t {
		for _, f := range row {
			if !isFinite(f) {
				return false
			}
		}
	}
	return true
}

// gosSolved is a triangle solved by the machine's own numbers, all of them, finite or not. The conversions keep it from rounding once for two operations.
func gosSolved(s solver, r, b api.Matrix) table {
	n, left, right := r.Rows, tableOf(r), tableOf(b)
	x := tableOf(b)
	for c := range b.Cols {
		if s.name == "Lower" {
			for i := 0; i < n; i++ {
				s := right[i][c]
				for k := 0; k < i; k++ {
					s = float64(s - float64(left[i][k]*x[k][c]))
				}
				x[i][c] = s / left[i][i]
			}
			continue
		}
		for i := n - 1; i >= 0; i-- {
			s := right[i][c]
			for k := i + 1; k < n; k++ {
				s = float64(s - float64(left[i][k]*x[k][c]))
			}
			x[i][c] = s / left[i][i]
		}
	}
	return x
}

// hasNought tells whether there is a nought on r's diagonal.
func hasNought(r api.Matrix) bool {
	for k := range min(r.Rows, r.Cols) {
		if float(*at(r, k, k)) == 0 {
			return true
		}
	}
	return false
}

// wantsGos holds one triangle of finite numbers, that goes with b, against the machine's own numbers, and tells which error there is.
func wantsGos(t *testing.T, s solver, r, b api.Matrix) api.Errno {
	t.Helper()
	if hasNought(r) {
		s.fails(t, r, b, api.ErrRank)
		return api.ErrRank
	}
	x := gosSolved(s, r, b)
	if !x.finite() {
		s.fails(t, r, b, api.ErrRange)
		return api.ErrRange
	}
	s.wants(t, r, b, x.matrix(b.Cols))
	return api.OK
}

// TestP17_1GosOwn goes over all sizes with numbers of all sorts, in the triangle as they come, with no nought on the diagonal, and with ones there.
func TestP17_1GosOwn(t *testing.T) {
	d := dice(1701)
	count := map[api.Errno]int{}
	for _, s := range triangles() {
		for _, size := range sizes() {
			for _, pick := range d.sorts() {
				r, b := picked(size[0], size[0], pick), picked(size[0], size[1], pick)
				count[wantsGos(t, s, r, b)]++
				r = d.sided(r, pick)
				count[wantsGos(t, s, r, b)]++
				for k := range size[0] {
					*at(r, k, k) = api.One ^ d.out(noughts())()
				}
				count[wantsGos(t, s, r, b)]++
			}
		}
	}
	for _, e := range []api.Errno{api.OK, api.ErrRank, api.ErrRange} {
		if count[e] < 300 {
			t.Errorf("which errors: %v", count)
		}
	}
}

// TestP17_1Mixed: a triangle of one sort, a right side of another one.
func TestP17_1Mixed(t *testing.T) {
	d := dice(1702)
	for _, s := range triangles() {
		for _, one := range d.sorts() {
			for _, other := range d.sorts() {
				n := 1 + d.below(api.MaxDim)
				wantsGos(t, s, d.sided(picked(n, n, one), one), picked(n, 1+d.below(api.MaxDim), other))
			}
		}
	}
}

// TestP17_1Greatest: just MaxDim rows and MaxDim columns.
func TestP17_1Greatest(t *testing.T) {
	d := dice(1703)
	for _, s := range triangles() {
		for _, pick := range d.sorts() {
			for range 10 {
				wantsGos(t, s, d.sided(picked(api.MaxDim, api.MaxDim, pick), pick), picked(api.MaxDim, api.MaxDim, pick))
			}
		}
	}
}

func TestP17_1ByHand(t *testing.T) {
	upper.wants(t, wholes(2, 2, 2, 1, 0, 4), wholes(2, 1, 4, 8), wholes(2, 1, 1, 2))
	lower.wants(t, wholes(2, 2, 4, 0, 1, 2), wholes(2, 1, 8, 4), wholes(2, 1, 2, 1))
	upper.wants(t, wholes(3, 3, 1, 2, 3, 0, 4, 5, 0, 0, -2), wholes(3, 2, 14, 1, 23, 0, -6, 0), of(3, 2, api.One, api.One, two, api.Zero, three, api.NegZero)) // 0 by -2 has the sign 1
	lower.wants(t, wholes(3, 3, -2, 0, 0, 5, 4, 0, 3, 2, 1), wholes(3, 2, -6, 0, 23, 0, 14, 1), of(3, 2, three, api.NegZero, two, api.Zero, api.One, api.One))
	for _, s := range triangles() {
		s.wants(t, wholes(1, 1, -2), wholes(1, 3, 6, -1, 0), of(1, 3, minus(three), half, api.NegZero))
		s.wants(t, wholes(1, 1, 3), of(1, 2, api.One, api.NegZero), of(1, 2, 0x3fd5555555555555, api.NegZero)) // no Zero is added
		s.wants(t, eye(3), wholes(3, 1, 7, -8, 9), wholes(3, 1, 7, -8, 9))
		s.wants(t, of(1, 1, greatest), of(1, 1, greatest), of(1, 1, api.One))
		s.wants(t, of(1, 1, least), of(1, 1, minus(least)), of(1, 1, minus(api.One)))
	}
}

// TestP17_1Empty: of no rows there is nothing to be solved, and as many columns as b has; of no columns there are as many rows.
func TestP17_1Empty(t *testing.T) {
	d := dice(1704)
	for _, s := range triangles() {
		for n := range api.MaxDim + 1 {
			s.wants(t, of(0, 0), of(0, n), of(0, n))
			s.wants(t, d.sided(picked(n, n, d.near(-3, 6)), nil), of(n, 0), of(n, 0))
		}
	}
}

// TestP17_1NotAsked: what is on the other side of the diagonal, of any finite numbers, changes nothing; what is on its own side does.
func TestP17_1NotAsked(t *testing.T) {
	d := dice(1705)
	for _, s := range triangles() {
		for n := 2; n <= api.MaxDim; n++ {
			for i := range n {
				for k := range n {
					if i == k {
						continue
					}
					r, b := picked(n, n, d.near(-3, 6)), picked(n, 2, d.near(-3, 6))
					want, _ := s.ask(r, b)
					asked := (s.name == "Upper") == (k > i)
					for _, other := range finites() {
						*at(r, i, k) = other
						if got, e := s.ask(r, b); same(got, want) == asked || !asked && e != api.OK {
							t.Errorf("%s of %s: %s, %v; of another number in row %d and column %d %s", s.name, show(r), show(got), e, i, k, show(want))
						}
					}
				}
			}
			r, b := picked(n, n, d.near(-3, 6)), picked(n, api.MaxDim, d.near(-3, 6))
			want, _ := s.ask(r, b)
			for _, pick := range d.sorts() {
				for i := range n {
					for k := range n {
						if (s.name == "Upper") == (k < i) && k != i {
							*at(r, i, k) = pick()
						}
					}
				}
				s.wants(t, r, b, want)
			}
		}
	}
}

// TestP17_1Columns: each column is solved as if it stood alone.
func TestP17_1Columns(t *testing.T) {
	d := dice(1706)
	for _, s := range triangles() {
		for n := 1; n <= api.MaxDim; n++ {
			r, b := picked(n, n, d.near(-3, 6)), picked(n, api.MaxDim, d.near(-9, 18))
			x, e := s.ask(r, b)
			for c := range api.MaxDim {
				one, want := of(n, 1), of(n, 1)
				for i := range n {
					one.Data, want.Data = append(one.Data, *at(b, i, c)), append(want.Data, *at(x, i, c))
				}
				s.wants(t, r, one, want)
			}
			if e != api.OK {
				t.Errorf("%s of %s: %v", s.name, show(r), e)
			}
		}
	}
}

// otherWays are what would be told by other orders of operations: k the other way, the products first summed up, the diagonal's number as a factor, both operations rounded once.
func otherWays(r, b []float64, n int) [][]float64 {
	var list [][]float64
	for way := range 4 {
		x := make([]float64, n)
		for i := n - 1; i >= 0; i-- {
			s, products := b[i], 0.0
			for j := i + 1; j < n; j++ {
				k := j
				if way == 0 {
					k = n - 1 - (j - i - 1)
				}
				switch way {
				case 1:
					products = float64(products + float64(r[i*n+k]*x[k]))
				case 3:
					s = math.FMA(-r[i*n+k], x[k], s)
				default:
					s = float64(s - float64(r[i*n+k]*x[k]))
				}
			}
			s = float64(s - products)
			if way == 2 {
				x[i] = float64(s * float64(1/r[i*n+i]))
			} else {
				x[i] = s / r[i*n+i]
			}
		}
		list = append(list, x)
	}
	return list
}

// TestP17_1Order: the written order is told, where others give other numbers; from below it is another one than the one from above turned over, as k goes up in both.
func TestP17_1Order(t *testing.T) {
	d := dice(1707)
	const n = 6
	apart := [5]int{}
	for range 300 {
		r, b := picked(n, n, d.near(-2, 4)), picked(n, 1, d.near(-2, 4))
		wantsGos(t, upper, r, b)
		wantsGos(t, lower, r, b)
		x, _ := upper.ask(r, b)
		var left, right []float64
		for _, f := range r.Data {
			left = append(left, float(f))
		}
		for _, f := range b.Data {
			right = append(right, float(f))
		}
		for way, other := range otherWays(left, right, n) {
			if !same(x, table{other}.matrix(n)) && !same(of(1, n, x.Data...), table{other}.matrix(n)) {
				apart[way]++
			}
		}
		y, _ := lower.ask(flipped(r, true), flipped(b, false))
		if !same(flipped(y, false), x) {
			apart[4]++
		}
	}
	for way, times := range apart {
		if times < 50 {
			t.Errorf("order %d tells another answer %d times: %v", way, times, apart)
		}
	}
}

// TestP1ByLayersBelow: what is told is what the calls of layers 5 and 6 give, one after another.
func TestP1ByLayersBelow(t *testing.T) {
	d := dice(1708)
	for n := range api.MaxDim + 1 {
		for _, pick := range d.middle() {
			r, b := d.sided(picked(n, n, pick), pick), picked(n, 2, pick)
			for _, s := range triangles() {
				x := clone(b)
				for c := range 2 {
					for step := range n {
						i, from, to := step, 0, step
						if s.name == "Upper" {
							i, from, to = n-1-step, n-step, n
						}
						rest := *at(b, i, c)
						for k := from; k < to; k++ {
							product, _ := times.Mul(*at(r, i, k), *at(x, k, c))
							rest, _ = sum.Sub(rest, product)
						}
						*at(x, i, c), _ = times.Div(rest, *at(r, i, i))
					}
				}
				s.wants(t, r, b, x)
			}
		}
	}
}

// TestP1Ints guards whole numbers in the samples: they are what layer 8 says.
func TestP1Ints(t *testing.T) {
	for _, n := range []int64{0, 1, -1, 7, 1<<20 - 1, -1 << 20, 1<<53 - 1} {
		if want, _ := compare.Int(n); wholes(1, 1, n).Data[0] != want {
			t.Errorf("%d: %x; wanted %x", n, wholes(1, 1, n).Data[0], want)
		}
	}
}
