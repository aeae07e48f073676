package gglm_test

import (
	"math"

	"dioptra/api"
	"dioptra/gglm"
)

// gosDot is the sum of products by the machine's own numbers. The conversions keep it from rounding once for two operations.
func gosDot(x, y []float64) float64 {
	s := 0.0
	for i := range x {
		s = float64(s + float64(x[i]*y[i]))
	}
	return s
}

// gosNorm is the norm of numbers that are finite, and not all noughts.
func gosNorm(x []float64) float64 {
	most := 0.0
	for _, f := range x {
		most = max(most, math.Abs(f))
	}
	k := math.Ilogb(most)
	t := make([]float64, len(x))
	for i, f := range x {
		t[i] = math.Ldexp(f, -k)
	}
	return math.Ldexp(math.Sqrt(gosDot(t, t)), k)
}

// gosMirror is what a mirror is by the machine's own numbers.
type gosMirror struct {
	v         []float64
	tau, beta float64
}

// gosMake is x's mirror, and whether there is one.
func gosMake(x []float64) (gosMirror, bool) {
	v := make([]float64, len(x))
	v[0] = 1
	sign, others := 0.0, false
	for i, f := range x {
		if !isFinite(f) {
			return gosMirror{}, false
		}
		if f != 0 && sign == 0 {
			sign = math.Copysign(1, f)
		}
		others = others || i > 0 && f != 0
	}
	if !others {
		return gosMirror{v, 0, x[0]}, true
	}
	beta := -sign * gosNorm(x)
	d := x[0] - beta
	if !isFinite(beta) || !isFinite(d) {
		return gosMirror{}, false
	}
	for i := 1; i < len(x); i++ {
		v[i] = x[i] / d
	}
	return gosMirror{v, float64(beta-x[0]) / beta, beta}, true
}

// table is a matrix of the machine's own numbers, row by row.
type table [][]float64

func tableOf(m api.Matrix) table {
	t := make(table, m.Rows)
	for i := range t {
		for k := range m.Cols {
			t[i] = append(t[i], float(*at(m, i, k)))
		}
	}
	return t
}

// list is the numbers of a matrix of one column.
func list(m api.Matrix) []float64 {
	var x []float64
	for _, b := range m.Data {
		x = append(x, float(b))
	}
	return x
}

// oneColumn is a matrix of these numbers.
func oneColumn(x []float64) api.Matrix {
	m := of(len(x), 1)
	for _, f := range x {
		m.Data = append(m.Data, says(f))
	}
	return m
}

// column is column k from row i on.
func (t table) column(i, k int) []float64 {
	var x []float64
	for _, row := range t[i:] {
		x = append(x, row[k])
	}
	return x
}

// columns are those from column k on, below column end.
func (t table) columns(k, end int) table {
	var part table
	for _, row := range t {
		part = append(part, append([]float64{}, row[k:end]...))
	}
	return part
}

// mirror mirrors t from row i and column k on.
func (t table) mirror(m gosMirror, i, k int) {
	for c := k; c < len(t[i]); c++ {
		s := float64(m.tau * gosDot(m.v, t.column(i, c)))
		for j, v := range m.v {
			t[i+j][c] = float64(t[i+j][c] - float64(s*v))
		}
	}
}

func (t table) finite() bool {
	for _, row := range t {
		if !allFinite(row) {
			return false
		}
	}
	return true
}

func allFinite(x []float64) bool {
	for _, f := range x {
		if !isFinite(f) {
			return false
		}
	}
	return true
}

// gosFactors are the factors of a table of so many columns by the machine's own numbers, and whether there are any.
func gosFactors(a table, cols int) (q, r table, made bool) {
	r, q = a.columns(0, cols), tableOf(eye(len(a)))
	var mirrors []gosMirror
	for j := 0; j < cols && j < len(a)-1; j++ {
		m, is := gosMake(r.column(j, j))
		if !is {
			return q, r, false
		}
		r.mirror(m, j, j)
		r[j][j] = m.beta
		for i := j + 1; i < len(a); i++ {
			r[i][j] = 0
		}
		mirrors = append(mirrors, m)
	}
	for j := len(mirrors) - 1; j >= 0; j-- {
		q.mirror(mirrors[j], j, 0)
	}
	return q, r, q.finite() && r.finite()
}

// gosFlat tells whether one of the first n numbers on r's diagonal is next to nothing beside the greatest one of them.
func gosFlat(r table, n int) bool {
	most, low := 0.0, math.Inf(1)
	for j := range n {
		f := math.Abs(r[j][j])
		most, low = max(most, f), min(low, f)
	}
	return low <= math.Ldexp(most, -40)
}

// gosUpper is a triangle of n rows solved from the last one to the first.
func gosUpper(r table, n int, b []float64) []float64 {
	x := make([]float64, n)
	for i := n - 1; i >= 0; i-- {
		s := b[i]
		for k := i + 1; k < n; k++ {
			s = float64(s - float64(r[i][k]*x[k]))
		}
		x[i] = s / r[i][i]
	}
	return x
}

// gosLower is a triangle of n rows, whose rows are r's columns, solved from the first one to the last.
func gosLower(r table, n int, b []float64) []float64 {
	x := make([]float64, n)
	for i := range n {
		s := b[i]
		for k := range i {
			s = float64(s - float64(r[k][i]*x[k]))
		}
		x[i] = s / r[i][i]
	}
	return x
}

// course is what a task comes to: x and y, or the error, and what it is that could not be.
type course struct {
	x, y   []float64
	err    api.Errno
	failed string
}

func tooGreat(what string) course {
	return course{err: api.ErrRange, failed: what}
}

// gosErrors is the least y with e2 y = c2, e2 being of so many columns; all numbers are finite.
func gosErrors(e2 table, cols int, c2 []float64) course {
	k := len(e2)
	columns := make(table, cols)
	for i := range columns {
		columns[i] = e2.column(0, i)
	}
	p, s, made := gosFactors(columns, k) // o is p turned, and l is s turned
	switch {
	case !made:
		return tooGreat("other factors")
	case gosFlat(s, k):
		return course{err: api.ErrRank, failed: "other flat"}
	}
	w := gosLower(s, k, c2)
	if !allFinite(w) {
		return tooGreat("w")
	}
	y := make([]float64, cols)
	for i, row := range p {
		y[i] = gosDot(row[:k], w)
	}
	if !allFinite(y) {
		return tooGreat("y")
	}
	return course{y: y}
}

// gosSolve is what a right task of finite numbers comes to, by the machine's own ones.
func gosSolve(task gglm.Task) course {
	n, m, p := task.A.Rows, task.A.Cols, task.B.Cols
	q, r, made := gosFactors(tableOf(task.A), m)
	switch {
	case !made:
		return tooGreat("factors")
	case gosFlat(r, m):
		return course{err: api.ErrRank, failed: "flat"}
	}
	b, d := tableOf(task.B), list(task.D)
	c, e := make([]float64, n), tableOf(task.B)
	for i := range n {
		c[i] = gosDot(q.column(0, i), d)
		for k := range p {
			e[i][k] = gosDot(q.column(0, i), b.column(0, k))
		}
	}
	switch {
	case !allFinite(c):
		return tooGreat("c")
	case !e.finite():
		return tooGreat("e")
	}
	told := gosErrors(e[m:], p, c[m:])
	if told.err != api.OK {
		return told
	}
	f := c[:m]
	for i := range f {
		f[i] = float64(f[i] - gosDot(e[i], told.y))
	}
	if !allFinite(f) {
		return tooGreat("f")
	}
	told.x = gosUpper(r, m, f)
	if !allFinite(told.x) {
		return tooGreat("x")
	}
	return told
}
