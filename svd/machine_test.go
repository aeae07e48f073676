package svd_test

import (
	"math"
	"slices"

	"dioptra/api"
)

// gosDot is the sum of products by the machine's own numbers. The conversions keep it from rounding once for two operations.
func gosDot(x, y []float64) float64 {
	s := 0.0
	for i := range x {
		s = float64(s + float64(x[i]*y[i]))
	}
	return s
}

// gosBiggest is the greatest of finite numbers without their signs.
func gosBiggest(x []float64) float64 {
	most := 0.0
	for _, f := range x {
		most = max(most, math.Abs(f))
	}
	return most
}

// gosExp is the greatest power of two that is at most f, from 0 on; of 0 it is 0.
func gosExp(f float64) int {
	if f == 0 {
		return 0
	}
	return math.Ilogb(f)
}

// gosNorm is the norm of finite numbers.
func gosNorm(x []float64) float64 {
	most := gosBiggest(x)
	if most == 0 {
		return 0
	}
	k := gosExp(most)
	t := make([]float64, len(x))
	for i, f := range x {
		t[i] = math.Ldexp(f, -k)
	}
	return math.Ldexp(math.Sqrt(gosDot(t, t)), k)
}

// gosAngle is z, c and s of two columns.
func gosAngle(x, y []float64, g float64) (z, c, s float64) {
	z = float64(gosDot(y, y)-gosDot(x, x)) / float64(g+g)
	t := 1 / float64(math.Abs(z)+math.Sqrt(float64(1+float64(z*z))))
	t = math.Copysign(t, z)
	c = 1 / math.Sqrt(float64(1+float64(t*t)))
	return z, c, float64(c * t)
}

// columns are a matrix of the machine's own numbers, column by column.
type columns [][]float64

func columnsOf(m api.Matrix) columns {
	list := make(columns, m.Cols)
	for k := range list {
		for i := range m.Rows {
			list[k] = append(list[k], float(*at(m, i, k)))
		}
	}
	return list
}

// matrix is a right matrix of so many rows.
func (l columns) matrix(rows int) api.Matrix {
	m := of(rows, len(l))
	for i := range rows {
		for _, column := range l {
			m.Data = append(m.Data, says(column[i]))
		}
	}
	return m
}

// shift is the columns with each number times 2^k, and whether one was rounded.
func (l columns) shift(k int) (columns, bool) {
	list, rounded := make(columns, len(l)), false
	for j, column := range l {
		for _, f := range column {
			g := math.Ldexp(f, k)
			list[j] = append(list[j], g)
			rounded = rounded || math.Ldexp(g, -k) != f
		}
	}
	return list, rounded
}

// byRows is all numbers of columns of so many rows, row by row.
func (l columns) byRows(rows int) []float64 {
	var list []float64
	for i := range rows {
		for _, column := range l {
			list = append(list, column[i])
		}
	}
	return list
}

// turn turns columns p and q, s being taken with the other sign.
func (l columns) turn(p, q int, c, s float64) {
	s = -s
	for i := range l[p] {
		x, y := l[p][i], l[q][i]
		l[p][i] = float64(float64(c*x) + float64(s*y))
		l[q][i] = float64(float64(c*y) - float64(s*x))
	}
}

func (l columns) finite() bool {
	for _, column := range l {
		for _, f := range column {
			if !isFinite(f) {
				return false
			}
		}
	}
	return true
}

// norms are those of all columns.
func (l columns) norms() []float64 {
	var list []float64
	for _, column := range l {
		list = append(list, gosNorm(column))
	}
	return list
}

// course is what was seen on the way: the tests look after it, so that they can tell that they went all ways.
type course struct {
	rounds  int     // how many there were, the last one too
	let     [3]int  // how many pairs were let be: as the first column was not above low, else as the second one was not, else as they stood upright
	turned  [2]int  // how many were turned: with z's sign 0, with z's sign 1
	level   [2]int  // of these, those whose z was a nought of that sign
	z       float64 // the greatest one without its sign
	alike   int     // how many columns had the norm of the one behind them at last
	moved   bool    // whether the order of columns was another one at last
	rounded [2]bool // whether Shift by -k rounded, whether Shift by k did
	grown   bool    // whether a size is more than the one ahead of it
	failed  bool    // whether a number of w or v was not finite
}

// round is a round over all pairs, and whether all of them were let be.
func (c *course) round(w, v columns, low float64) bool {
	still := true
	for p := range w {
		for q := p + 1; q < len(w); q++ {
			x, y, g := gosNorm(w[p]), gosNorm(w[q]), gosDot(w[p], w[q])
			switch {
			case !(x > low):
				c.let[0]++
				continue
			case !(y > low):
				c.let[1]++
				continue
			case !(math.Abs(g) > math.Ldexp(float64(x*y), -44)):
				c.let[2]++
				continue
			}
			z, co, si := gosAngle(w[p], w[q], g)
			w.turn(p, q, co, si)
			v.turn(p, q, co, si)
			sign := 0
			if math.Signbit(z) {
				sign = 1
			}
			c.turned[sign]++
			if z == 0 {
				c.level[sign]++
			}
			c.z = max(c.z, math.Abs(z))
			still = false
		}
	}
	return still
}

// places are those of numbers, the greatest first, of such as are as much the first one: each is put ahead of those before it that are less.
func (c *course) places(norms []float64) []int {
	var list []int
	for k, norm := range norms {
		at := len(list)
		for at > 0 && norms[list[at-1]] < norm {
			at--
		}
		list = slices.Insert(list, at, k)
	}
	for i, k := range list {
		c.moved = c.moved || i != k
		if i > 0 && norms[k] == norms[list[i-1]] {
			c.alike++
		}
	}
	return list
}

// gosUpright is what is told of a right matrix of finite numbers, by the machine's own ones.
func gosUpright(a api.Matrix) (answer, course) {
	var seen course
	start := columnsOf(a)
	k := gosExp(gosBiggest(start.byRows(a.Rows)))
	var w columns
	w, seen.rounded[0] = start.shift(-k)
	v := columnsOf(eye(a.Cols))
	low := math.Ldexp(gosNorm(w.byRows(a.Rows)), -44)
	for still := false; !still; {
		if seen.rounds == api.MaxTurns {
			return answer{err: api.ErrTurns}, seen
		}
		still = seen.round(w, v, low)
		seen.rounds++
	}
	var lastW, lastV columns
	for _, place := range seen.places(w.norms()) {
		lastW, lastV = append(lastW, w[place]), append(lastV, v[place])
	}
	lastW, seen.rounded[1] = lastW.shift(k)
	if seen.failed = !lastW.finite() || !lastV.finite(); seen.failed {
		return answer{err: api.ErrRange}, seen
	}
	told := answer{w: lastW.matrix(a.Rows), v: lastV.matrix(a.Cols)}
	for i, norm := range lastW.norms() {
		told.sizes = append(told.sizes, says(norm))
		seen.grown = seen.grown || i > 0 && norm > float(told.sizes[i-1])
	}
	return told, seen
}

// gosRank is what Rank says by the machine's own numbers.
func gosRank(sizes []api.Bits) int {
	n := 0
	for n < len(sizes) && float(sizes[n]) > math.Ldexp(float(sizes[0]), -40) {
		n++
	}
	return n
}
