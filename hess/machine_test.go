package hess_test

import (
	"math"

	"dioptra/api"
	"dioptra/hess"
)

// gosDot is the sum of products by the machine's own numbers. The conversions keep it from rounding once for two operations.
func gosDot(x, y []float64) float64 {
	s := 0.0
	for i := range x {
		s = float64(s + float64(x[i]*y[i]))
	}
	return s
}

// gosNorm is the norm of numbers that are finite, and not all noughts.
func gosNorm(x []float64) float64 {
	most := 0.0
	for _, f := range x {
		most = max(most, math.Abs(f))
	}
	k := math.Ilogb(most)
	t := make([]float64, len(x))
	for i, f := range x {
		t[i] = math.Ldexp(f, -k)
	}
	return math.Ldexp(math.Sqrt(gosDot(t, t)), k)
}

// gosMirror is what a mirror is by the machine's own numbers.
type gosMirror struct {
	v         []float64
	tau, beta float64
}

// gosMake is x's mirror, and whether there is one.
func gosMake(x []float64) (gosMirror, bool) {
	v := make([]float64, len(x))
	v[0] = 1
	sign, others := 0.0, false
	for i, f := range x {
		if !isFinite(f) {
			return gosMirror{}, false
		}
		if f != 0 && sign == 0 {
			sign = math.Copysign(1, f)
		}
		others = others || i > 0 && f != 0
	}
	if !others {
		return gosMirror{v, 0, x[0]}, true
	}
	beta := -sign * gosNorm(x)
	d := x[0] - beta
	if !isFinite(beta) || !isFinite(d) {
		return gosMirror{}, false
	}
	for i := 1; i < len(x); i++ {
		v[i] = x[i] / d
	}
	return gosMirror{v, float64(beta-x[0]) / beta, beta}, true
}

// table is a matrix of the machine's own numbers, row by row.
type table [][]float64

func tableOf(m api.Matrix) table {
	t := make(table, m.Rows)
	for i := range t {
		for k := range m.Cols {
			t[i] = append(t[i], float(*at(m, i, k)))
		}
	}
	return t
}

// matrix is a square matrix.
func (t table) matrix() api.Matrix {
	m := of(len(t), len(t))
	for _, row := range t {
		for _, f := range row {
			m.Data = append(m.Data, says(f))
		}
	}
	return m
}

// column is column k from row i on.
func (t table) column(i, k int) []float64 {
	var x []float64
	for _, row := range t[i:] {
		x = append(x, row[k])
	}
	return x
}

// mirror mirrors t from row i and column k on.
func (t table) mirror(m gosMirror, i, k int) {
	for c := k; c < len(t[i]); c++ {
		s := float64(m.tau * gosDot(m.v, t.column(i, c)))
		for j, v := range m.v {
			t[i+j][c] = float64(t[i+j][c] - float64(s*v))
		}
	}
}

// rows turns rows i and k.
func (t table) rows(i, k int, c, s float64) {
	for j := range t[i] {
		x, y := t[i][j], t[k][j]
		t[i][j] = float64(c*x) + float64(s*y)
		t[k][j] = float64(c*y) - float64(s*x)
	}
}

// cols turns columns i and k.
func (t table) cols(i, k int, c, s float64) {
	for _, row := range t {
		x, y := row[i], row[k]
		row[i] = float64(c*x) + float64(s*y)
		row[k] = float64(c*y) - float64(s*x)
	}
}

func (t table) finite() bool {
	for _, row := range t {
		for _, f := range row {
			if !isFinite(f) {
				return false
			}
		}
	}
	return true
}

// gosFactors are b's factors by the machine's own numbers, and whether all mirrors could be made.
func gosFactors(b api.Matrix) (q, r table, made bool) {
	r, q = tableOf(b), tableOf(eye(b.Rows))
	var mirrors []gosMirror
	for j := 0; j < b.Rows-1; j++ {
		m, is := gosMake(r.column(j, j))
		if !is {
			return q, r, false
		}
		r.mirror(m, j, j)
		r[j][j] = m.beta
		for i := j + 1; i < b.Rows; i++ {
			r[i][j] = 0
		}
		mirrors = append(mirrors, m)
	}
	for j := len(mirrors) - 1; j >= 0; j-- {
		q.mirror(mirrors[j], j, 0)
	}
	return q, r, q.finite() && r.finite()
}

// gosTurn is the turn of two numbers, and whether there is one.
func gosTurn(f, g float64) (c, s, r float64, made bool) {
	switch {
	case !isFinite(f) || !isFinite(g):
		return 0, 0, 0, false
	case g == 0:
		return 1, 0, f, true
	case f == 0:
		return 0, 1, g, true
	}
	k := math.Ilogb(max(math.Abs(f), math.Abs(g)))
	a, b := math.Ldexp(f, -k), math.Ldexp(g, -k)
	n := math.Sqrt(float64(a*a) + float64(b*b))
	return a / n, b / n, math.Ldexp(n, k), true
}

// course is what was seen on the way to the four: the tests look after it, so that they can tell that they went all ways.
type course struct {
	failed  string    // what could not be, or "" if all could
	steps   int       // how many pairs of turns were made
	noughts [2][4]int // of turns of two noughts, those of rows, then those of columns: whether the first one, and twice whether the second one, is NegZero
	others  [2][2]int // likewise where r, and where Zero, is not what turning gives there
	below   [2]int    // in h, and in t, how many noughts with the sign 1 stood at last where all is to be Zero
	kept    bool      // whether all that stood there were noughts
}

// look notes what a turn of f and g comes to in place of x and y.
func (c *course) look(which int, f, g, r, x, y float64) {
	if f == 0 && g == 0 {
		place := 0
		if math.Signbit(f) {
			place++
		}
		if math.Signbit(g) {
			place += 2
		}
		c.noughts[which][place]++
	}
	if x != r {
		c.others[which][0]++
	}
	if y != 0 {
		c.others[which][1]++
	}
}

// clean puts Zero where a number lies more than so many rows below the diagonal.
func (c *course) clean(t table, which, rows int) {
	for i := range t {
		for j := 0; j < i-rows; j++ {
			c.kept = c.kept && t[i][j] == 0
			if math.Signbit(t[i][j]) {
				c.below[which]++
			}
			t[i][j] = 0
		}
	}
}

// gosBring is the four of square matrices of one size and of finite numbers, by the machine's own ones.
func gosBring(a, b api.Matrix) (hess.Four, course) {
	n, seen := a.Rows, course{kept: true}
	q, u, made := gosFactors(b)
	if !made {
		seen.failed = "factors"
		return hess.Four{}, seen
	}
	h, from, z := tableOf(a), tableOf(a), tableOf(eye(n))
	for i := range n {
		for k := range n {
			h[i][k] = gosDot(q.column(0, i), from.column(0, k))
		}
	}
	finite := h.finite()
	for j := 0; j < n-2; j++ {
		for i := n - 1; i >= j+2; i-- {
			f, g := h[i-1][j], h[i][j]
			c, s, r, made := gosTurn(f, g)
			if !made {
				seen.failed = "rows"
				break
			}
			h.rows(i-1, i, c, s)
			u.rows(i-1, i, c, s)
			q.cols(i-1, i, c, s)
			seen.look(0, f, g, r, h[i-1][j], h[i][j])
			h[i-1][j], h[i][j] = r, 0
			f, g = u[i][i], u[i][i-1]
			c, s, r, made = gosTurn(f, g)
			if !made {
				seen.failed = "columns"
				break
			}
			u.cols(i, i-1, c, s)
			h.cols(i, i-1, c, s)
			z.cols(i, i-1, c, s)
			seen.look(1, f, g, r, u[i][i], u[i][i-1])
			u[i][i], u[i][i-1] = r, 0
			seen.steps++
		}
		if seen.failed != "" {
			break
		}
	}
	switch {
	case !finite:
		seen.failed = "product"
	case seen.failed == "":
		seen.clean(h, 0, 1)
		seen.clean(u, 1, 0)
		if !h.finite() || !u.finite() || !q.finite() || !z.finite() {
			seen.failed = "last"
		}
	}
	if seen.failed != "" {
		return hess.Four{}, seen
	}
	return hess.Four{H: h.matrix(), T: u.matrix(), Q: q.matrix(), Z: z.matrix()}, seen
}
